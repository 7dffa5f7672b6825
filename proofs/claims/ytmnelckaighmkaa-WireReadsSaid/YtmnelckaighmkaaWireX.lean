/- Readers that are new; numbers' rows rise. -/
import Derived.Test.YtmnelckaighmkaaWireW
set_option maxRecDepth 100000
namespace Go.Proofs.Ytmnelckaighmkaa.wireR
open Go Ev

noncomputable def newH (s : List UInt8) : AHeap := ⟨(.node (.node .leaf (some (.cells (.node (.node .leaf (some (.bool false)) .leaf) (some (.slg 0 0 0 s.length 0)) .leaf) 2 46 0 0 1 0 false .leaf)) .leaf) (some (.cells (.fn fun j => some (AV.int IntKind.u8 (yy s j))) s.length 5 0 0 1 0 true .leaf)) .leaf), 2, .leaf⟩

theorem newr (s : List UInt8) (R : AV → AHeap → Prop) (kp : Nat) (_K : AM → Prop) : Obl P 13 (fun v H => R v H) kp _K [.run 13, .told 0 (.fn fun j => some (.int .u8 (yy s j))) s.length, .done] ((startM P 13 [.str s] .leaf)) = ((∀ (k : Nat) (v : AV), k < s.length → (T.fn fun j => some (AV.int IntKind.u8 (yy s j))).get k = some v → (storeList T.leaf 0 (byteCells s)).get k = some v) ∧ (s.length = (byteCells s).length) ∧ (R (.ptr 1 0 0) (newH s))) := by kernel_rfl

theorem newr_ok (kp : Nat) (s : List UInt8) : Goal P kp 13 (fun v H => v = .ptr 1 0 0 ∧ H = newH s) (startM P 13 [.str s] .leaf) := by
  refine Obl.goal (K := fun _ => False) mix (fun _ h => h.elim) (cast (newr s _ kp _).symm ⟨fun k v hk hv => ?_, by simp [byteCells], rfl, rfl⟩)
  cases hv
  rw [storeList_get, if_pos ⟨Nat.zero_le _, by simp [byteCells]; omega⟩]
  simp only [byteCells, Nat.sub_zero, List.getElem?_map, List.getElem?_eq_getElem hk, Option.map_some]
  rw [yy, List.getD_eq_getElem?_getD, List.getElem?_eq_getElem hk]
  rfl

theorem be_low : ∀ (t : List UInt8) (v : Int), 0 ≤ v → v * 256 ^ t.length ≤ t.foldl (fun v b => v * 256 + (b.toNat : Int)) v
  | [], v, h => by simp only [List.foldl, List.length_nil, Int.pow_zero]; omega
  | b :: t, v, h => by
    have h2 := be_low t (v * 256 + b.toNat) (by omega)
    refine Int.le_trans ?_ h2
    have h4 : (0 : Int) ≤ 256 ^ t.length := Int.pow_nonneg (by omega)
    rw [List.length_cons, Int.pow_succ, Int.mul_comm (256 ^ t.length) 256, ← Int.mul_assoc]
    exact Int.mul_le_mul_of_nonneg_right (by omega) h4

theorem less_lt : ∀ (t t' : List UInt8) (v : Int), 0 ≤ v → t'.length = t.length → Op.bytesLess t' t = true →
    t'.foldl (fun v b => v * 256 + (b.toNat : Int)) v < t.foldl (fun v b => v * 256 + (b.toNat : Int)) v
  | [], t', v, _, hl, h => by
    obtain rfl := List.eq_nil_of_length_eq_zero hl
    cases h
  | b :: y, t', v, hv, hl, h => by
    match t', hl, h with
    | a :: x, hl, h =>
      have hl2 : x.length = y.length := by simpa using hl
      clear hl
      simp only [Op.bytesLess, Bool.or_eq_true, decide_eq_true_eq, Bool.and_eq_true, beq_iff_eq] at h
      rcases h with h | ⟨h6, h5⟩
      · have hab : a.toNat < b.toNat := UInt8.lt_iff_toNat_lt.1 h
        have h1 := (be_bound x (v * 256 + a.toNat) (by omega)).2
        have h2 := be_low y (v * 256 + b.toNat) (by omega)
        have h4 : (0 : Int) ≤ 256 ^ y.length := Int.pow_nonneg (by omega)
        rw [hl2] at h1
        refine Int.lt_of_lt_of_le h1 (Int.le_trans ?_ h2)
        exact Int.mul_le_mul_of_nonneg_right (by omega) h4
      · subst h6; exact less_lt y x (v * 256 + a.toNat) (by omega) hl2 h5

/-- Where a number lies that begins with a byte. -/
theorem where_n {f : UInt8} {t : List UInt8} {n : Int} (ht : t.length = tl f.toNat) (hv : val f.toNat t = n) (hl : least f.toNat ≤ n) (hm : n ≤ most f.toNat) :
    (f.toNat ≤ 240 ∧ n = f.toNat ∧ tl f.toNat = 0) ∨ (241 ≤ f.toNat ∧ f.toNat < 249 ∧ 240 + 256 * ((f.toNat : Int) - 241) ≤ n ∧ n ≤ 495 + 256 * ((f.toNat : Int) - 241) ∧ tl f.toNat = 1) ∨
    (f.toNat = 249 ∧ 2288 ≤ n ∧ n ≤ 67823 ∧ tl f.toNat = 2) ∨ (f.toNat = 250 ∧ 67824 ≤ n ∧ n ≤ 16777215 ∧ tl f.toNat = 3) ∨ (f.toNat = 251 ∧ 16777216 ≤ n ∧ n ≤ 4294967295 ∧ tl f.toNat = 4) ∨
    (f.toNat = 252 ∧ 4294967296 ≤ n ∧ n ≤ 1099511627775 ∧ tl f.toNat = 5) ∨ (f.toNat = 253 ∧ 1099511627776 ≤ n ∧ n ≤ 281474976710655 ∧ tl f.toNat = 6) ∨ (f.toNat = 254 ∧ 281474976710656 ≤ n ∧ n ≤ 72057594037927935 ∧ tl f.toNat = 7) ∨
    (f.toNat = 255 ∧ 72057594037927936 ≤ n ∧ tl f.toNat = 8) := by
  have hf := u8_lt f
  have hcs : f.toNat ≤ 240 ∨ (241 ≤ f.toNat ∧ f.toNat < 249) ∨ f.toNat = 249 ∨ f.toNat = 250 ∨ f.toNat = 251 ∨ f.toNat = 252 ∨ f.toNat = 253 ∨ f.toNat = 254 ∨ f.toNat = 255 := by omega
  rcases hcs with c | ⟨c, c2⟩ | c | c | c | c | c | c | c
  · left
    simp only [val, if_pos c] at hv
    exact ⟨c, hv.symm, by simp only [tl, if_pos c]⟩
  · right; left
    have c1 : ¬ f.toNat ≤ 240 := by omega
    have htl : tl f.toNat = 1 := by simp only [tl, if_neg c1, if_pos c2]
    rw [htl] at ht
    obtain ⟨a, rfl⟩ := len1 ht
    have := u8_lt a
    simp only [val, if_neg c1, if_pos c2, be, List.foldl] at hv
    exact ⟨c, c2, by omega, by omega, htl⟩
  all_goals
    simp [tl, least, most, c] at *
    omega

theorem row_up (n : Int) (h0 : 0 ≤ n) (h1 : n + 1 ≤ 18446744073709551615) : (Op.bytesLess (row (n + 1)) (row n) || row (n + 1) == row n) = false ∧ (row n).length ≤ (row (n + 1)).length := by
  obtain ⟨f, t, e, ht, hv, hl, hm⟩ := head_row n h0 (by omega)
  obtain ⟨f', t', e', ht', hv', hl', hm'⟩ := head_row (n + 1) (by omega) h1
  rw [e, e']
  have w := where_n ht hv hl hm
  have w' := where_n ht' hv' hl' hm'
  by_cases hff : f' = f
  · subst hff
    have htt : t' ≠ t := fun h => by rw [h, hv] at hv'; omega
    have hless : Op.bytesLess t' t = false := by
      cases hb : Op.bytesLess t' t with
      | false => rfl
      | true =>
        have := less_lt t t' 0 (by omega) (by rw [ht, ht']) hb
        have hbe : be t' < be t := this
        unfold val at hv hv'
        split at hv
        · omega
        split at hv
        · rename_i c c2
          rw [if_neg c, if_pos c2] at hv'; omega
        split at hv
        · rename_i c c2 c3
          rw [if_neg c, if_neg c2, if_pos c3] at hv'; omega
        · rename_i c c2 c3
          rw [if_neg c, if_neg c2, if_neg c3] at hv'; omega
    refine ⟨?_, by simp [ht, ht']⟩
    simp [Op.bytesLess, hless, htt]
  · have hne : f'.toNat ≠ f.toNat := fun h => hff (UInt8.toNat_inj.1 h)
    have hlt : f.toNat < f'.toNat ∧ tl f.toNat ≤ tl f'.toNat := by
      clear hl hm hl' hm' hv hv' ht ht' e e' hff
      rcases w with w | w | w | w | w | w | w | w | w <;> rcases w' with w' | w' | w' | w' | w' | w' | w' | w' | w' <;> omega
    have hnl : ¬ f' < f := fun h => by have := UInt8.lt_iff_toNat_lt.1 h; omega
    refine ⟨?_, by simp [ht, ht']; omega⟩
    simp [Op.bytesLess, hnl, hff]

end Go.Proofs.Ytmnelckaighmkaa.wireR
