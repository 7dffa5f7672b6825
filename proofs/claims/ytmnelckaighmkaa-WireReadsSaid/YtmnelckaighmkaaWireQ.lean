/- The number that bytes begin with: pure lemmas over the rows of numbers. -/
import Derived.Test.YtmnelckaighmkaaWireN
set_option maxRecDepth 100000
namespace Go.Proofs.Ytmnelckaighmkaa.wireR
open Go Ev

/-! ## What bytes say -/

/-- How many bytes follow a first one. -/
def tl (f : Nat) : Nat := if f ≤ 240 then 0 else if f < 249 then 1 else if f = 249 then 2 else f - 247

def be (l : List UInt8) : Int := l.foldl (fun v b => v * 256 + b.toNat) 0

def val (f : Nat) (t : List UInt8) : Int := if f ≤ 240 then f else if f < 249 then be t + 240 + 256 * ((f : Int) - 241) else if f = 249 then be t + 2288 else be t

def least (f : Nat) : Int := if f ≤ 240 then 0 else if f < 249 then 241 else if f = 249 then 2288 else if f = 250 then 67824 else if f = 251 then 16777216 else if f = 252 then 4294967296 else if f = 253 then 1099511627776 else if f = 254 then 281474976710656 else 72057594037927936
def most (f : Nat) : Int := if f ≤ 240 then 240 else if f < 249 then 2287 else if f = 249 then 67823 else if f = 250 then 16777215 else if f = 251 then 4294967295 else if f = 252 then 1099511627775 else if f = 253 then 281474976710655 else if f = 254 then 72057594037927935 else 18446744073709551615

theorem B_nat (x : Int) : (B x).toNat = (x % 256).toNat := by
  unfold B
  rw [UInt8.toNat_ofNat']
  omega
theorem B_eq {x : Int} {b : UInt8} (h : x % 256 = b.toNat) : B x = b := by
  apply UInt8.toNat_inj.1
  rw [B_nat, h]; rfl
theorem B_int (x : Int) : ((B x).toNat : Int) = x % 256 := by rw [B_nat]; omega
theorem u8_lt (b : UInt8) : b.toNat < 256 := b.toNat_lt

theorem head_row (n : Int) (h0 : 0 ≤ n) (h1 : n ≤ 18446744073709551615) : ∃ f t, row n = f :: t ∧ t.length = tl f.toNat ∧ val f.toNat t = n ∧ least f.toNat ≤ n ∧ n ≤ most f.toNat := by
  unfold row
  have b0 := B_int n
  have b1 := B_int (n / 256)
  have b2 := B_int (n / 65536)
  have b3 := B_int (n / 16777216)
  have b4 := B_int (n / 4294967296)
  have b5 := B_int (n / 1099511627776)
  have b6 := B_int (n / 281474976710656)
  have b7 := B_int (n / 72057594037927936)
  split
  · rename_i h
    have e : (B n).toNat ≤ 240 := by omega
    refine ⟨_, _, rfl, ?_⟩
    simp only [tl, val, least, most, if_pos e, List.length_nil, true_and]
    omega
  split
  · have c0 := B_int (241 + (n - 240) / 256)
    have c1 := B_int (n - 240)
    have e : ¬ (B (241 + (n - 240) / 256)).toNat ≤ 240 := by omega
    have e2 : (B (241 + (n - 240) / 256)).toNat < 249 := by omega
    refine ⟨_, _, rfl, ?_⟩
    have r0 : (241 + (n - 240) / 256) % 256 = 241 + (n - 240) / 256 := by omega
    rw [r0] at c0
    simp only [tl, val, least, most, if_neg e, if_pos e2, List.length_cons, List.length_nil, be, List.foldl]
    refine ⟨trivial, ?_, ?_, ?_⟩ <;> omega
  split
  · have c1 := B_int (n - 2288)
    have c2 := B_int ((n - 2288) / 256)
    refine ⟨_, _, rfl, by simp [tl], ?_⟩
    simp [val, least, most, be, List.foldl]
    omega
  split
  · refine ⟨_, _, rfl, by simp [tl], ?_⟩
    simp [val, least, most, be, List.foldl]
    omega
  split
  · refine ⟨_, _, rfl, by simp [tl], ?_⟩
    simp [val, least, most, be, List.foldl]
    omega
  split
  · refine ⟨_, _, rfl, by simp [tl], ?_⟩
    simp [val, least, most, be, List.foldl]
    omega
  split
  · refine ⟨_, _, rfl, by simp [tl], ?_⟩
    simp [val, least, most, be, List.foldl]
    omega
  split
  · refine ⟨_, _, rfl, by simp [tl], ?_⟩
    simp [val, least, most, be, List.foldl]
    omega
  · refine ⟨_, _, rfl, by simp [tl], ?_⟩
    simp [val, least, most, be, List.foldl]
    omega

theorem len1 {t : List UInt8} (h : t.length = 1) : ∃ a, t = [a] := by
  match t, h with
  | [a], _ => exact ⟨a, rfl⟩
theorem cons_of {t : List UInt8} {k : Nat} (h : t.length = k + 1) : ∃ a r, t = a :: r ∧ r.length = k := by
  match t, h with
  | a :: r, h => exact ⟨a, r, rfl, by simpa using h⟩

theorem rv2 (a1 a2 : UInt8) (h0 : 2288 ≤ (((0 * 256 + (a1.toNat : Int)) * 256 + (a2.toNat : Int)) + 2288)) (h1 : (((0 * 256 + (a1.toNat : Int)) * 256 + (a2.toNat : Int)) + 2288) ≤ 67823) : row (((0 * 256 + (a1.toNat : Int)) * 256 + (a2.toNat : Int)) + 2288) = [249, a1, a2] := by
  have := u8_lt a1; have := u8_lt a2
  rw [row, if_neg (by omega), if_neg (by omega), if_pos (by omega)]
  rw [B_eq (b := a1) (by omega), B_eq (b := a2) (by omega)]

theorem rv3 (a1 a2 a3 : UInt8) (h0 : 67824 ≤ (((0 * 256 + (a1.toNat : Int)) * 256 + (a2.toNat : Int)) * 256 + (a3.toNat : Int))) (h1 : (((0 * 256 + (a1.toNat : Int)) * 256 + (a2.toNat : Int)) * 256 + (a3.toNat : Int)) ≤ 16777215) : row (((0 * 256 + (a1.toNat : Int)) * 256 + (a2.toNat : Int)) * 256 + (a3.toNat : Int)) = [250, a1, a2, a3] := by
  have := u8_lt a1; have := u8_lt a2; have := u8_lt a3
  rw [row, if_neg (by omega), if_neg (by omega), if_neg (by omega), if_pos (by omega)]
  rw [B_eq (b := a1) (by omega), B_eq (b := a2) (by omega), B_eq (b := a3) (by omega)]

theorem rv4 (a1 a2 a3 a4 : UInt8) (h0 : 16777216 ≤ ((((0 * 256 + (a1.toNat : Int)) * 256 + (a2.toNat : Int)) * 256 + (a3.toNat : Int)) * 256 + (a4.toNat : Int))) (h1 : ((((0 * 256 + (a1.toNat : Int)) * 256 + (a2.toNat : Int)) * 256 + (a3.toNat : Int)) * 256 + (a4.toNat : Int)) ≤ 4294967295) : row ((((0 * 256 + (a1.toNat : Int)) * 256 + (a2.toNat : Int)) * 256 + (a3.toNat : Int)) * 256 + (a4.toNat : Int)) = [251, a1, a2, a3, a4] := by
  have := u8_lt a1; have := u8_lt a2; have := u8_lt a3; have := u8_lt a4
  rw [row, if_neg (by omega), if_neg (by omega), if_neg (by omega), if_neg (by omega), if_pos (by omega)]
  rw [B_eq (b := a1) (by omega), B_eq (b := a2) (by omega), B_eq (b := a3) (by omega), B_eq (b := a4) (by omega)]

theorem rv5 (a1 a2 a3 a4 a5 : UInt8) (h0 : 4294967296 ≤ (((((0 * 256 + (a1.toNat : Int)) * 256 + (a2.toNat : Int)) * 256 + (a3.toNat : Int)) * 256 + (a4.toNat : Int)) * 256 + (a5.toNat : Int))) (h1 : (((((0 * 256 + (a1.toNat : Int)) * 256 + (a2.toNat : Int)) * 256 + (a3.toNat : Int)) * 256 + (a4.toNat : Int)) * 256 + (a5.toNat : Int)) ≤ 1099511627775) : row (((((0 * 256 + (a1.toNat : Int)) * 256 + (a2.toNat : Int)) * 256 + (a3.toNat : Int)) * 256 + (a4.toNat : Int)) * 256 + (a5.toNat : Int)) = [252, a1, a2, a3, a4, a5] := by
  have := u8_lt a1; have := u8_lt a2; have := u8_lt a3; have := u8_lt a4; have := u8_lt a5
  rw [row, if_neg (by omega), if_neg (by omega), if_neg (by omega), if_neg (by omega), if_neg (by omega), if_pos (by omega)]
  rw [B_eq (b := a1) (by omega), B_eq (b := a2) (by omega), B_eq (b := a3) (by omega), B_eq (b := a4) (by omega), B_eq (b := a5) (by omega)]

theorem rv6 (a1 a2 a3 a4 a5 a6 : UInt8) (h0 : 1099511627776 ≤ ((((((0 * 256 + (a1.toNat : Int)) * 256 + (a2.toNat : Int)) * 256 + (a3.toNat : Int)) * 256 + (a4.toNat : Int)) * 256 + (a5.toNat : Int)) * 256 + (a6.toNat : Int))) (h1 : ((((((0 * 256 + (a1.toNat : Int)) * 256 + (a2.toNat : Int)) * 256 + (a3.toNat : Int)) * 256 + (a4.toNat : Int)) * 256 + (a5.toNat : Int)) * 256 + (a6.toNat : Int)) ≤ 281474976710655) : row ((((((0 * 256 + (a1.toNat : Int)) * 256 + (a2.toNat : Int)) * 256 + (a3.toNat : Int)) * 256 + (a4.toNat : Int)) * 256 + (a5.toNat : Int)) * 256 + (a6.toNat : Int)) = [253, a1, a2, a3, a4, a5, a6] := by
  have := u8_lt a1; have := u8_lt a2; have := u8_lt a3; have := u8_lt a4; have := u8_lt a5; have := u8_lt a6
  rw [row, if_neg (by omega), if_neg (by omega), if_neg (by omega), if_neg (by omega), if_neg (by omega), if_neg (by omega), if_pos (by omega)]
  rw [B_eq (b := a1) (by omega), B_eq (b := a2) (by omega), B_eq (b := a3) (by omega), B_eq (b := a4) (by omega), B_eq (b := a5) (by omega), B_eq (b := a6) (by omega)]

theorem rv7 (a1 a2 a3 a4 a5 a6 a7 : UInt8) (h0 : 281474976710656 ≤ (((((((0 * 256 + (a1.toNat : Int)) * 256 + (a2.toNat : Int)) * 256 + (a3.toNat : Int)) * 256 + (a4.toNat : Int)) * 256 + (a5.toNat : Int)) * 256 + (a6.toNat : Int)) * 256 + (a7.toNat : Int))) (h1 : (((((((0 * 256 + (a1.toNat : Int)) * 256 + (a2.toNat : Int)) * 256 + (a3.toNat : Int)) * 256 + (a4.toNat : Int)) * 256 + (a5.toNat : Int)) * 256 + (a6.toNat : Int)) * 256 + (a7.toNat : Int)) ≤ 72057594037927935) : row (((((((0 * 256 + (a1.toNat : Int)) * 256 + (a2.toNat : Int)) * 256 + (a3.toNat : Int)) * 256 + (a4.toNat : Int)) * 256 + (a5.toNat : Int)) * 256 + (a6.toNat : Int)) * 256 + (a7.toNat : Int)) = [254, a1, a2, a3, a4, a5, a6, a7] := by
  have := u8_lt a1; have := u8_lt a2; have := u8_lt a3; have := u8_lt a4; have := u8_lt a5; have := u8_lt a6; have := u8_lt a7
  rw [row, if_neg (by omega), if_neg (by omega), if_neg (by omega), if_neg (by omega), if_neg (by omega), if_neg (by omega), if_neg (by omega), if_pos (by omega)]
  rw [B_eq (b := a1) (by omega), B_eq (b := a2) (by omega), B_eq (b := a3) (by omega), B_eq (b := a4) (by omega), B_eq (b := a5) (by omega), B_eq (b := a6) (by omega), B_eq (b := a7) (by omega)]

theorem rv8 (a1 a2 a3 a4 a5 a6 a7 a8 : UInt8) (h0 : 72057594037927936 ≤ ((((((((0 * 256 + (a1.toNat : Int)) * 256 + (a2.toNat : Int)) * 256 + (a3.toNat : Int)) * 256 + (a4.toNat : Int)) * 256 + (a5.toNat : Int)) * 256 + (a6.toNat : Int)) * 256 + (a7.toNat : Int)) * 256 + (a8.toNat : Int))) (h1 : ((((((((0 * 256 + (a1.toNat : Int)) * 256 + (a2.toNat : Int)) * 256 + (a3.toNat : Int)) * 256 + (a4.toNat : Int)) * 256 + (a5.toNat : Int)) * 256 + (a6.toNat : Int)) * 256 + (a7.toNat : Int)) * 256 + (a8.toNat : Int)) ≤ 18446744073709551615) : row ((((((((0 * 256 + (a1.toNat : Int)) * 256 + (a2.toNat : Int)) * 256 + (a3.toNat : Int)) * 256 + (a4.toNat : Int)) * 256 + (a5.toNat : Int)) * 256 + (a6.toNat : Int)) * 256 + (a7.toNat : Int)) * 256 + (a8.toNat : Int)) = [255, a1, a2, a3, a4, a5, a6, a7, a8] := by
  have := u8_lt a1; have := u8_lt a2; have := u8_lt a3; have := u8_lt a4; have := u8_lt a5; have := u8_lt a6; have := u8_lt a7; have := u8_lt a8
  rw [row, if_neg (by omega), if_neg (by omega), if_neg (by omega), if_neg (by omega), if_neg (by omega), if_neg (by omega), if_neg (by omega), if_neg (by omega)]
  rw [B_eq (b := a1) (by omega), B_eq (b := a2) (by omega), B_eq (b := a3) (by omega), B_eq (b := a4) (by omega), B_eq (b := a5) (by omega), B_eq (b := a6) (by omega), B_eq (b := a7) (by omega), B_eq (b := a8) (by omega)]

/-- Bytes that say a number within their sort are its row. -/
theorem row_val (f : UInt8) (t : List UInt8) (ht : t.length = tl f.toNat) (h0 : least f.toNat ≤ val f.toNat t) (h1 : val f.toNat t ≤ most f.toNat) : row (val f.toNat t) = f :: t := by
  have hf := u8_lt f
  by_cases c : f.toNat ≤ 240
  · simp only [tl, val, least, most, if_pos c] at *
    obtain rfl := List.eq_nil_of_length_eq_zero ht
    rw [row, if_pos (by omega)]
    congr 1
    exact B_eq (by omega)
  by_cases c2 : f.toNat < 249
  · simp only [tl, val, least, most, if_neg c, if_pos c2] at *
    obtain ⟨a, rfl⟩ := len1 ht
    simp only [be, List.foldl] at *
    have := u8_lt a
    rw [row, if_neg (by omega), if_pos (by omega)]
    congr 1
    · exact B_eq (by omega)
    · congr 1; exact B_eq (by omega)
  have hcs : f.toNat = (249 : UInt8).toNat ∨ f.toNat = (250 : UInt8).toNat ∨ f.toNat = (251 : UInt8).toNat ∨ f.toNat = (252 : UInt8).toNat ∨ f.toNat = (253 : UInt8).toNat ∨ f.toNat = (254 : UInt8).toNat ∨ f.toNat = (255 : UInt8).toNat := by simp; omega
  clear c c2 hf
  rcases hcs with c4 | c4 | c4 | c4 | c4 | c4 | c4 <;> obtain rfl := UInt8.toNat_inj.1 c4 <;> clear c4
  · have ht2 : t.length = 2 := ht.trans (by decide)
    clear ht
    obtain ⟨a1, r, rfl, hr⟩ := cons_of ht2
    obtain ⟨a2, rfl⟩ := len1 hr
    · have e : val (249 : UInt8).toNat [a1, a2] = (((0 * 256 + (a1.toNat : Int)) * 256 + (a2.toNat : Int)) + 2288) := by simp [val, be, List.foldl]
      have e0 : least (249 : UInt8).toNat = 2288 := by simp [least]
      have e1 : most (249 : UInt8).toNat = 67823 := by simp [most]
      rw [e, e0] at h0; rw [e, e1] at h1; rw [e]
      exact rv2 a1 a2 h0 h1
  · have ht : t.length = 3 := by simpa [tl] using ht
    match t, ht with
    | [a1, a2, a3], _ =>
      have e : val (250 : UInt8).toNat [a1, a2, a3] = (((0 * 256 + (a1.toNat : Int)) * 256 + (a2.toNat : Int)) * 256 + (a3.toNat : Int)) := by simp [val, be, List.foldl]
      have e0 : least (250 : UInt8).toNat = 67824 := by simp [least]
      have e1 : most (250 : UInt8).toNat = 16777215 := by simp [most]
      rw [e, e0] at h0; rw [e, e1] at h1; rw [e]
      exact rv3 a1 a2 a3 h0 h1
  · have ht : t.length = 4 := by simpa [tl] using ht
    match t, ht with
    | [a1, a2, a3, a4], _ =>
      have e : val (251 : UInt8).toNat [a1, a2, a3, a4] = ((((0 * 256 + (a1.toNat : Int)) * 256 + (a2.toNat : Int)) * 256 + (a3.toNat : Int)) * 256 + (a4.toNat : Int)) := by simp [val, be, List.foldl]
      have e0 : least (251 : UInt8).toNat = 16777216 := by simp [least]
      have e1 : most (251 : UInt8).toNat = 4294967295 := by simp [most]
      rw [e, e0] at h0; rw [e, e1] at h1; rw [e]
      exact rv4 a1 a2 a3 a4 h0 h1
  · have ht : t.length = 5 := by simpa [tl] using ht
    match t, ht with
    | [a1, a2, a3, a4, a5], _ =>
      have e : val (252 : UInt8).toNat [a1, a2, a3, a4, a5] = (((((0 * 256 + (a1.toNat : Int)) * 256 + (a2.toNat : Int)) * 256 + (a3.toNat : Int)) * 256 + (a4.toNat : Int)) * 256 + (a5.toNat : Int)) := by simp [val, be, List.foldl]
      have e0 : least (252 : UInt8).toNat = 4294967296 := by simp [least]
      have e1 : most (252 : UInt8).toNat = 1099511627775 := by simp [most]
      rw [e, e0] at h0; rw [e, e1] at h1; rw [e]
      exact rv5 a1 a2 a3 a4 a5 h0 h1
  · have ht : t.length = 6 := by simpa [tl] using ht
    match t, ht with
    | [a1, a2, a3, a4, a5, a6], _ =>
      have e : val (253 : UInt8).toNat [a1, a2, a3, a4, a5, a6] = ((((((0 * 256 + (a1.toNat : Int)) * 256 + (a2.toNat : Int)) * 256 + (a3.toNat : Int)) * 256 + (a4.toNat : Int)) * 256 + (a5.toNat : Int)) * 256 + (a6.toNat : Int)) := by simp [val, be, List.foldl]
      have e0 : least (253 : UInt8).toNat = 1099511627776 := by simp [least]
      have e1 : most (253 : UInt8).toNat = 281474976710655 := by simp [most]
      rw [e, e0] at h0; rw [e, e1] at h1; rw [e]
      exact rv6 a1 a2 a3 a4 a5 a6 h0 h1
  · have ht : t.length = 7 := by simpa [tl] using ht
    match t, ht with
    | [a1, a2, a3, a4, a5, a6, a7], _ =>
      have e : val (254 : UInt8).toNat [a1, a2, a3, a4, a5, a6, a7] = (((((((0 * 256 + (a1.toNat : Int)) * 256 + (a2.toNat : Int)) * 256 + (a3.toNat : Int)) * 256 + (a4.toNat : Int)) * 256 + (a5.toNat : Int)) * 256 + (a6.toNat : Int)) * 256 + (a7.toNat : Int)) := by simp [val, be, List.foldl]
      have e0 : least (254 : UInt8).toNat = 281474976710656 := by simp [least]
      have e1 : most (254 : UInt8).toNat = 72057594037927935 := by simp [most]
      rw [e, e0] at h0; rw [e, e1] at h1; rw [e]
      exact rv7 a1 a2 a3 a4 a5 a6 a7 h0 h1
  · have ht : t.length = 8 := by simpa [tl] using ht
    match t, ht with
    | [a1, a2, a3, a4, a5, a6, a7, a8], _ =>
      have e : val (255 : UInt8).toNat [a1, a2, a3, a4, a5, a6, a7, a8] = ((((((((0 * 256 + (a1.toNat : Int)) * 256 + (a2.toNat : Int)) * 256 + (a3.toNat : Int)) * 256 + (a4.toNat : Int)) * 256 + (a5.toNat : Int)) * 256 + (a6.toNat : Int)) * 256 + (a7.toNat : Int)) * 256 + (a8.toNat : Int)) := by simp [val, be, List.foldl]
      have e0 : least (255 : UInt8).toNat = 72057594037927936 := by simp [least]
      have e1 : most (255 : UInt8).toNat = 18446744073709551615 := by simp [most]
      rw [e, e0] at h0; rw [e, e1] at h1; rw [e]
      exact rv8 a1 a2 a3 a4 a5 a6 a7 a8 h0 h1

/-- The number that bytes begin with, and how many bytes it takes. -/
def parse : List UInt8 → Option (Int × Nat)
  | [] => none
  | f :: t => if tl f.toNat ≤ t.length ∧ row (val f.toNat (t.take (tl f.toNat))) = f :: t.take (tl f.toNat) then some (val f.toNat (t.take (tl f.toNat)), 1 + tl f.toNat) else none

theorem parse_cons (f : UInt8) (t : List UInt8) : parse (f :: t) = if tl f.toNat ≤ t.length ∧ row (val f.toNat (t.take (tl f.toNat))) = f :: t.take (tl f.toNat) then some (val f.toNat (t.take (tl f.toNat)), 1 + tl f.toNat) else none := rfl

theorem tl_le (f : UInt8) : tl f.toNat ≤ 8 := by
  have := u8_lt f
  unfold tl
  repeat' split
  all_goals omega

theorem be_bound : ∀ (t : List UInt8) (v : Int), 0 ≤ v → 0 ≤ t.foldl (fun v b => v * 256 + (b.toNat : Int)) v ∧ t.foldl (fun v b => v * 256 + (b.toNat : Int)) v < (v + 1) * 256 ^ t.length
  | [], v, h => by simp only [List.foldl, List.length_nil, Int.pow_zero]; omega
  | b :: t, v, h => by
    have hb := u8_lt b
    obtain ⟨h1, h2⟩ := be_bound t (v * 256 + b.toNat) (by omega)
    refine ⟨h1, Int.lt_of_lt_of_le h2 ?_⟩
    rw [List.length_cons, Int.pow_succ, ← Int.mul_assoc]
    have h3 : (v * 256 + (b.toNat : Int) + 1) ≤ (v + 1) * 256 := by omega
    have h4 : (0 : Int) ≤ 256 ^ t.length := Int.pow_nonneg (by omega)
    calc (v * 256 + (b.toNat : Int) + 1) * 256 ^ t.length ≤ ((v + 1) * 256) * 256 ^ t.length := Int.mul_le_mul_of_nonneg_right h3 h4
      _ = (v + 1) * 256 ^ t.length * 256 := by rw [Int.mul_assoc, Int.mul_comm 256, ← Int.mul_assoc]

theorem val_bound (f : UInt8) (t : List UInt8) (ht : t.length = tl f.toNat) : 0 ≤ val f.toNat t ∧ val f.toNat t ≤ 18446744073709551615 := by
  obtain ⟨h1, h2⟩ := be_bound t 0 (by omega)
  have hf := u8_lt f
  have h8 := tl_le f
  have h3 : (256 : Int) ^ t.length ≤ 256 ^ 8 := by
    have := Nat.pow_le_pow_right (n := 256) (by omega) (show t.length ≤ 8 by omega)
    exact_mod_cast this
  unfold val be
  split
  · omega
  split
  · rename_i c c2
    simp only [tl, if_neg c, if_pos c2] at ht
    rw [ht] at h2
    omega
  split
  · rename_i c c2 c3
    simp only [tl, c3] at ht
    simp at ht
    rw [ht] at h2
    omega
  · omega

theorem parse_some {l : List UInt8} {n : Int} {k : Nat} (h : parse l = some (n, k)) : 0 ≤ n ∧ n ≤ 18446744073709551615 ∧ row n = l.take k ∧ k ≤ l.length ∧ (row n).length = k := by
  match l with
  | [] => cases h
  | f :: t =>
    rw [parse_cons] at h
    split at h
    · rename_i hc
      cases h
      have hl : (t.take (tl f.toNat)).length = tl f.toNat := by simp; omega
      obtain ⟨h1, h2⟩ := val_bound f _ hl
      refine ⟨h1, h2, ?_, by simp; omega, ?_⟩
      · rw [hc.2, Nat.add_comm, List.take_succ_cons]
      · rw [hc.2, List.length_cons, hl]; omega
    · cases h

/-- A number's row, whatever stands behind. -/
theorem parse_row (n : Int) (h0 : 0 ≤ n) (h1 : n ≤ 18446744073709551615) (s : List UInt8) : parse (row n ++ s) = some (n, (row n).length) := by
  obtain ⟨f, t, e, ht, hv, _, _⟩ := head_row n h0 h1
  have htk : (t ++ s).take (tl f.toNat) = t := by rw [← ht]; simp
  rw [e, List.cons_append]
  rw [parse_cons, htk, hv, if_pos ⟨by simp; omega, e⟩, List.length_cons, ht, Nat.add_comm]

/-- What is shorter than a number's row is none. -/
theorem parse_prefix (n : Int) (h0 : 0 ≤ n) (h1 : n ≤ 18446744073709551615) (i : Nat) (hi : i < (row n).length) : parse ((row n).take i) = none := by
  obtain ⟨f, t, e, ht, hv, _, _⟩ := head_row n h0 h1
  rw [e] at hi ⊢
  cases i with
  | zero => rfl
  | succ i =>
    rw [List.take_succ_cons]
    rw [parse_cons, if_neg]
    intro hc
    have := hc.1
    simp at this hi
    omega

/-- Within the sort, or none. -/
theorem row_iff (f : UInt8) (t : List UInt8) (ht : t.length = tl f.toNat) : row (val f.toNat t) = f :: t ↔ least f.toNat ≤ val f.toNat t ∧ val f.toNat t ≤ most f.toNat := by
  refine ⟨fun h => ?_, fun h => row_val f t ht h.1 h.2⟩
  obtain ⟨b1, b2⟩ := val_bound f t ht
  obtain ⟨f', t', e, _, _, c1, c2⟩ := head_row (val f.toNat t) b1 b2
  rw [e] at h
  cases h
  exact ⟨c1, c2⟩

end Go.Proofs.Ytmnelckaighmkaa.wireR
