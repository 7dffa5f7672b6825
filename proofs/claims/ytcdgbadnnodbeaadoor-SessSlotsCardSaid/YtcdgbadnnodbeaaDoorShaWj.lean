/- Rows of bytes that are taken for texts. -/
import Derived.Test.YtcdgbadnnodbeaaDoorShaWi
set_option maxRecDepth 100000
namespace Go.Proofs.YtcdgbadnnodbeaaDoor.shaW
open Go Ev

theorem bytes_cells : ∀ u : List UInt8, bytesA (byteCells u) = some u
  | [] => rfl
  | b :: r => by
    have ih := bytes_cells r
    unfold bytesA at ih ⊢
    rw [show byteCells (b :: r) = .int .u8 b.toNat :: byteCells r from rfl, mapO_cons, ih, show byteA (.int .u8 b.toNat) = some b from by show some (UInt8.ofNat (b.toNat : Int).toNat) = _; rw [Int.toNat_natCast, UInt8.ofNat_toNat]]

theorem cells_len (u : List UInt8) : (byteCells u).length = u.length := by simp [byteCells]

/-- A row that tells these bytes. -/
theorem row_bytes {c : T AV} {off : Nat} (u : List UInt8) (h : ∀ k, k < u.length → c.get (off + k) = some (.int .u8 ((u.getD k 0).toNat : Int))) : cellsStr (loadList c off u.length) = some (.str u) := by
  have hone : ∀ k, k < u.length → (byteCells u)[k]? = some (.int .u8 ((u.getD k 0).toNat : Int)) := fun k hk => by simp [byteCells, hk]
  obtain ⟨l, h1, _, h3, h4⟩ := loadList_some (c := c) (off := off) (n := u.length) fun k hk => ⟨_, h k hk, rfl⟩
  rw [h1]
  have : l = byteCells u := by
    apply List.ext_getElem?
    intro k
    by_cases hk : k < u.length
    · rw [hone k hk]
      exact h4 k _ hk (h k hk)
    · rw [List.getElem?_eq_none (by omega), List.getElem?_eq_none (by rw [cells_len]; omega)]
  rw [this]
  show strAV (bytesA (byteCells u)) = _
  rw [bytes_cells]
  rfl

theorem stored_bytes (u : List UInt8) : 0 + u.length ≤ (byteCells u).length ∧ cellsStr (loadList (storeList .leaf 0 (byteCells u)) 0 u.length) = some (.str u) :=
  ⟨by rw [cells_len]; omega, row_bytes u fun k hk => by
    rw [storeList_get, if_pos ⟨Nat.zero_le _, by rw [cells_len]; omega⟩, Nat.zero_add, Nat.sub_zero]
    simp [byteCells, hk]⟩

theorem told_bytes (u : List UInt8) (w : Nat → Int) (h : ∀ k, k < u.length → w k = ((u.getD k 0).toNat : Int)) : cellsStr (loadList (.fn fun k => some (.int .u8 (w k))) 0 u.length) = some (.str u) :=
  row_bytes u fun k hk => by
    show some (AV.int .u8 (w (0 + k))) = _
    rw [Nat.zero_add, h k hk]

theorem tells_put8 (n p : Nat) (x : Int) (w w' : Nat → Int) (h : ∀ k, w' k = if k = p then x else w k) : Tells n (.fn fun k => some (.int .u8 (w' k))) (.fn fun k => bif Nat.beq k p then some (.int .u8 x) else T.get (.fn fun k => some (.int .u8 (w k))) k) := fun k v _ e => by
  change some (AV.int .u8 (w' k)) = some v at e
  show (bif Nat.beq k p then some (AV.int .u8 x) else some (AV.int .u8 (w k))) = some v
  rw [← e, h k]
  by_cases hk : k = p
  · rw [hk, Nat.beq_refl, if_pos rfl]; rfl
  · rw [if_neg hk]
    cases hb : Nat.beq k p with
    | true => exact absurd (Nat.eq_of_beq_eq_true hb) hk
    | false => rfl

end Go.Proofs.YtcdgbadnnodbeaaDoor.shaW
