/- Streams: the bodies that are cut off, what is left, whether it is broken. -/
import Derived.Test.YtfgaadhnplccpaaEvSc
import Derived.Test.YtfgaadhnplccpaaRows
import Derived.IntWalk
set_option maxRecDepth 100000
namespace Go.Proofs.Ytfgaadhnplccpaa.frm
open Go Ev

def hdn (L : List UInt8) : Nat := 256 * (L.getD 0 0).toNat + (L.getD 1 0).toNat

/-- Bodies, what is left, is it broken? -/
structure Cut where
  fs : List (List UInt8)
  left : List UInt8
  bad : Bool

def cutF : Nat → List UInt8 → Cut
  | 0, L => ⟨[], L, false⟩
  | f + 1, L => if L.length < 2 then ⟨[], L, false⟩ else
      if hdn L < 1 ∨ 8192 < hdn L then ⟨[], [], true⟩ else
      if L.length < 2 + hdn L then ⟨[], L, false⟩ else
      ⟨(L.drop 2).take (hdn L) :: (cutF f (L.drop (2 + hdn L))).fs, (cutF f (L.drop (2 + hdn L))).left, (cutF f (L.drop (2 + hdn L))).bad⟩

theorem cutF_more : ∀ (f g : Nat) (L : List UInt8), L.length < f → L.length < g → cutF f L = cutF g L
  | 0, _, _, h, _ => absurd h (Nat.not_lt_zero _)
  | _ + 1, 0, _, _, h => absurd h (Nat.not_lt_zero _)
  | f + 1, g + 1, L, h1, h2 => by
    unfold cutF
    split
    · rfl
    split
    · rfl
    split
    · rfl
    rename_i a b c
    rw [cutF_more f g (L.drop (2 + hdn L)) (by rw [List.length_drop]; omega) (by rw [List.length_drop]; omega)]

def cut (L : List UInt8) : Cut := cutF (L.length + 1) L

theorem cut_eq (L : List UInt8) : cut L = if L.length < 2 then ⟨[], L, false⟩ else
      if hdn L < 1 ∨ 8192 < hdn L then ⟨[], [], true⟩ else
      if L.length < 2 + hdn L then ⟨[], L, false⟩ else
      ⟨(L.drop 2).take (hdn L) :: (cut (L.drop (2 + hdn L))).fs, (cut (L.drop (2 + hdn L))).left, (cut (L.drop (2 + hdn L))).bad⟩ := by
  unfold cut
  rw [cutF]
  split
  · rfl
  split
  · rfl
  split
  · rfl
  rw [cutF_more L.length ((L.drop (2 + hdn L)).length + 1) (L.drop (2 + hdn L)) (by rw [List.length_drop]; omega) (by omega)]

theorem cut_short {L : List UInt8} (h : L.length < 2) : cut L = ⟨[], L, false⟩ := by rw [cut_eq, if_pos h]
theorem cut_bad {L : List UInt8} (h : ¬ L.length < 2) (hb : hdn L < 1 ∨ 8192 < hdn L) : cut L = ⟨[], [], true⟩ := by rw [cut_eq, if_neg h, if_pos hb]
theorem cut_part {L : List UInt8} (h : ¬ L.length < 2) (hb : ¬ (hdn L < 1 ∨ 8192 < hdn L)) (hl : L.length < 2 + hdn L) : cut L = ⟨[], L, false⟩ := by rw [cut_eq, if_neg h, if_neg hb, if_pos hl]
theorem cut_more {L : List UInt8} (h : ¬ L.length < 2) (hb : ¬ (hdn L < 1 ∨ 8192 < hdn L)) (hl : ¬ L.length < 2 + hdn L) : cut L = ⟨(L.drop 2).take (hdn L) :: (cut (L.drop (2 + hdn L))).fs, (cut (L.drop (2 + hdn L))).left, (cut (L.drop (2 + hdn L))).bad⟩ := by
  conv => lhs; rw [cut_eq, if_neg h, if_neg hb, if_neg hl]

theorem hdn_append {L s : List UInt8} (h : ¬ L.length < 2) : hdn (L ++ s) = hdn L := by
  unfold hdn
  simp only [List.getD_eq_getElem?_getD]
  rw [List.getElem?_append_left (by omega), List.getElem?_append_left (by omega)]

theorem cut_induct {C : List UInt8 → Prop} (h : ∀ L, (∀ M, M.length < L.length → C M) → C L) (L : List UInt8) : C L := by
  suffices ∀ n, ∀ L : List UInt8, L.length < n → C L from this _ L (Nat.lt_succ_self _)
  intro n
  induction n with
  | zero => intro L h; exact absurd h (Nat.not_lt_zero _)
  | succ n ih => exact fun L hL => h L fun M hM => ih M (by omega)

/-- What comes behind is cut behind what was left. -/
theorem cut_append (L s : List UInt8) : cut (L ++ s) = if (cut L).bad then cut L else ⟨(cut L).fs ++ (cut ((cut L).left ++ s)).fs, (cut ((cut L).left ++ s)).left, (cut ((cut L).left ++ s)).bad⟩ := by
  induction L using cut_induct with
  | h L ih =>
    by_cases h : L.length < 2
    · rw [cut_short h]; simp
    by_cases hb : hdn L < 1 ∨ 8192 < hdn L
    · rw [cut_bad h hb, cut_bad (by rw [List.length_append]; omega) (by rw [hdn_append h]; exact hb)]; rfl
    by_cases hl : L.length < 2 + hdn L
    · rw [cut_part h hb hl]; simp
    have ha := hdn_append (s := s) h
    have key : cut (L ++ s) = ⟨(L.drop 2).take (hdn L) :: (cut (L.drop (2 + hdn L) ++ s)).fs, (cut (L.drop (2 + hdn L) ++ s)).left, (cut (L.drop (2 + hdn L) ++ s)).bad⟩ := by
      rw [cut_more (by rw [List.length_append]; omega) (by rw [ha]; exact hb) (by rw [ha, List.length_append]; omega), ha]
      rw [List.drop_append_of_le_length (by omega), List.drop_append_of_le_length (by omega), List.take_append_of_le_length (by rw [List.length_drop]; omega)]
    rw [key, cut_more h hb hl]
    have := ih (L.drop (2 + hdn L)) (by rw [List.length_drop]; omega)
    rw [this]
    simp only
    split <;> simp

/-- What is left is not cut. -/
theorem cut_left (L : List UInt8) : (cut L).bad = false → cut (cut L).left = ⟨[], (cut L).left, false⟩ := by
  induction L using cut_induct with
  | h L ih =>
    by_cases h : L.length < 2
    · intro _; rw [cut_short h]; exact cut_short h
    by_cases hb : hdn L < 1 ∨ 8192 < hdn L
    · rw [cut_bad h hb]; intro hc; cases hc
    by_cases hl : L.length < 2 + hdn L
    · intro _; rw [cut_part h hb hl]; exact cut_part h hb hl
    rw [cut_more h hb hl]
    exact ih (L.drop (2 + hdn L)) (by rw [List.length_drop]; omega)

theorem left_le (L : List UInt8) : (cut L).left.length ≤ L.length := by
  induction L using cut_induct with
  | h L ih =>
    by_cases h : L.length < 2
    · rw [cut_short h]; exact Nat.le_refl _
    by_cases hb : hdn L < 1 ∨ 8192 < hdn L
    · rw [cut_bad h hb]; exact Nat.zero_le _
    by_cases hl : L.length < 2 + hdn L
    · rw [cut_part h hb hl]; exact Nat.le_refl _
    rw [cut_more h hb hl]
    have := ih (L.drop (2 + hdn L)) (by rw [List.length_drop]; omega)
    rw [List.length_drop] at this
    show (cut (L.drop (2 + hdn L))).left.length ≤ _
    omega

theorem fs_le (L : List UInt8) : (cut L).fs.length ≤ L.length := by
  induction L using cut_induct with
  | h L ih =>
    by_cases h : L.length < 2
    · rw [cut_short h]; exact Nat.zero_le _
    by_cases hb : hdn L < 1 ∨ 8192 < hdn L
    · rw [cut_bad h hb]; exact Nat.zero_le _
    by_cases hl : L.length < 2 + hdn L
    · rw [cut_part h hb hl]; exact Nat.zero_le _
    rw [cut_more h hb hl]
    have := ih (L.drop (2 + hdn L)) (by rw [List.length_drop]; omega)
    rw [List.length_drop] at this
    show ((L.drop 2).take (hdn L) :: (cut (L.drop (2 + hdn L))).fs).length ≤ _
    rw [List.length_cons]
    omega
end Go.Proofs.Ytfgaadhnplccpaa.frm
