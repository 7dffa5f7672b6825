/- Paths: the pieces of a text, segments, what a text is cleaned to; rows of texts. -/
import Derived.Test.YtdpgaemeapeilaaEvSc
import Derived.Test.YtdpgaemeapeilaaRows
import Derived.IntWalk
import Derived.Lib.IndexLaws
set_option maxRecDepth 100000
namespace Go.Proofs.Ytdpgaemeapeilaa.pth
open Go Ev

noncomputable abbrev P : Program := Try.prog
theorem mix : P.follows .mixedOrders = true := Checked.mixed Try.checked

/-! ## The answer -/

def seg1 (x : Nat) : Bool := decide ((97 ≤ x ∧ x ≤ 122) ∨ (48 ≤ x ∧ x ≤ 57) ∨ x = 95 ∨ x = 45)
def segm (p : List UInt8) : Bool := decide (1 ≤ p.length ∧ p.length ≤ 16) && p.all fun b => seg1 b.toNat

def sp : List UInt8 → List UInt8 → List (List UInt8)
  | [], a => [a]
  | c :: r, a => if c = 47 then a :: sp r [] else sp r (a ++ [c])

def wk (l : List (List UInt8)) (p : List UInt8) : Option (List (List UInt8)) :=
  if p = [] then some l else if p = [46] then some l else if p = [46, 46] then (if l = [] then none else some l.dropLast) else if segm p = true then some (l ++ [p]) else none

def fo : List (List UInt8) → List (List UInt8) → Option (List (List UInt8))
  | l, [] => some l
  | l, p :: r => match wk l p with
    | none => none
    | some l' => fo l' r

def jl : List UInt8 → List (List UInt8) → List UInt8
  | a, [] => a
  | a, x :: r => jl (a ++ [47] ++ x) r

def fin : Option (List (List UInt8)) → List UInt8 × Int
  | none => ([], 6)
  | some [] => ([], 6)
  | some (x :: r) => if r.length + 1 > 8 then ([], 6) else (jl x r, 0)

def cl (s : List UInt8) : List UInt8 × Int := fin (fo [] (sp s []))
def tup (x : List UInt8 × Int) : AV := .tup [.str x.1, .int .i64 x.2]

theorem sp_no : ∀ (s a : List UInt8), (∀ b ∈ s, b ≠ 47) → sp s a = [a ++ s]
  | [], a, _ => by unfold sp; rw [List.append_nil]
  | c :: r, a, h => by
    unfold sp
    rw [if_neg (h c (.head _)), sp_no r _ fun b hb => h b (.tail _ hb), List.append_assoc]
    rfl

theorem sp_at (r : List UInt8) : ∀ (p a : List UInt8), (∀ b ∈ p, b ≠ 47) → sp (p ++ 47 :: r) a = (a ++ p) :: sp r []
  | [], a, _ => by
    show sp (47 :: r) a = _
    rw [sp.eq_def]
    simp
  | c :: p, a, h => by
    show sp (c :: (p ++ 47 :: r)) a = _
    rw [sp.eq_def]
    simp only
    rw [if_neg (h c (.head _)), sp_at r p _ fun b hb => h b (.tail _ hb), List.append_assoc]
    rfl

theorem parts : ∀ s : List UInt8, (∀ b ∈ s, b ≠ 47) ∨ ∃ p r, s = p ++ 47 :: r ∧ ∀ b ∈ p, b ≠ 47
  | [] => .inl fun _ h => by cases h
  | c :: s => by
    by_cases hc : c = 47
    · subst hc
      exact .inr ⟨[], s, rfl, fun _ h => by cases h⟩
    · rcases parts s with h | ⟨p, r, rfl, h⟩
      · exact .inl fun b hb => by
          cases hb with
          | head => exact hc
          | tail _ hb => exact h b hb
      · exact .inr ⟨c :: p, r, rfl, fun b hb => by
          cases hb with
          | head => exact hc
          | tail _ hb => exact h b hb⟩

theorem idx_no : ∀ s : List UInt8, (∀ b ∈ s, b ≠ 47) → Lib.indexByte s 47 = -1
  | [], _ => rfl
  | c :: r, h => by
    unfold Lib.indexByte
    rw [if_neg (by simpa using h c (.head _)), idx_no r fun b hb => h b (.tail _ hb)]
    rfl

theorem idx_at (r : List UInt8) : ∀ p : List UInt8, (∀ b ∈ p, b ≠ 47) → Lib.indexByte (p ++ 47 :: r) 47 = (p.length : Int)
  | [], _ => by
    show Lib.indexByte (47 :: r) 47 = _
    unfold Lib.indexByte
    rfl
  | c :: p, h => by
    show Lib.indexByte (c :: (p ++ 47 :: r)) 47 = _
    unfold Lib.indexByte
    rw [if_neg (by simpa using h c (.head _)), idx_at r p fun b hb => h b (.tail _ hb), if_neg (by simp)]
    simp

theorem seg_len {p : List UInt8} (h : segm p = true) : 1 ≤ p.length ∧ p.length ≤ 16 := by
  unfold segm at h
  rw [Bool.and_eq_true] at h
  exact of_decide_eq_true h.1

theorem seg_up : segm [46, 46] = false := by decide
theorem seg_dot : segm [46] = false := by decide
theorem seg_nil : segm [] = false := by decide

theorem wk_nil (l : List (List UInt8)) : wk l [] = some l := if_pos rfl
theorem wk_dot (l : List (List UInt8)) : wk l [46] = some l := by unfold wk; rw [if_neg (by decide), if_pos rfl]
theorem wk_up (l : List (List UInt8)) : wk l [46, 46] = if l = [] then none else some l.dropLast := by unfold wk; rw [if_neg (by decide), if_neg (by decide), if_pos rfl]
theorem wk_else {l : List (List UInt8)} {p : List UInt8} (h1 : p ≠ []) (h2 : p ≠ [46]) (h3 : p ≠ [46, 46]) : wk l p = if segm p = true then some (l ++ [p]) else none := by
  unfold wk; rw [if_neg h1, if_neg h2, if_neg h3]

/-- What is there stays segments. -/
theorem wk_seg {l l' : List (List UInt8)} {p : List UInt8} (h : ∀ x ∈ l, segm x = true) (e : wk l p = some l') : ∀ x ∈ l', segm x = true := by
  unfold wk at e
  split at e
  · cases e; exact h
  split at e
  · cases e; exact h
  split at e
  · split at e
    · cases e
    · cases e
      exact fun x hx => h x ((List.dropLast_sublist l).subset hx)
  split at e
  · rename_i hs
    cases e
    intro x hx
    rcases List.mem_append.1 hx with hx | hx
    · exact h x hx
    · rw [List.mem_singleton.1 hx]; exact hs
  · cases e

theorem fo_seg : ∀ (ps l l' : List (List UInt8)), (∀ x ∈ l, segm x = true) → fo l ps = some l' → ∀ x ∈ l', segm x = true
  | [], l, l', h, e => by cases e; exact h
  | p :: r, l, l', h, e => by
    unfold fo at e
    split at e
    · cases e
    · rename_i l1 h1
      exact fo_seg r l1 l' (wk_seg h h1) e

/-! ## Rows -/

theorem wi {x : Int} (h : 0 ≤ x ∧ x < 9223372036854775808) : IntKind.i64.wrap x = x := IntWalk.i64_in _ (by omega)

def rowL (l : List (List UInt8)) : T AV := .fn fun k => l[k]?.map AV.str

theorem rowL_tells {z : Nat} {l : List (List UInt8)} {g : Nat → List UInt8} (hg : ∀ k x, l[k]? = some x → g k = x) : Tells z (rowL l) (.fn fun k => some (.str (g k))) := by
  intro k v _ e
  change l[k]?.map AV.str = some v at e
  obtain ⟨x, hx, rfl⟩ := Option.map_eq_some_iff.1 e
  show some (AV.str (g k)) = _
  rw [hg k x hx]

theorem has_more {c : T AV} {u v : List UInt8} {off b : Nat} (h : ∀ k, k < u.length → c.get k = some (.int .u8 ((u.getD k 0).toNat : Int))) (ho : off = u.length) (hb : b = off + v.length) :
    ∀ k, k < (u ++ v).length → (T.fn fun k => bif off.ble k && k.blt b then (fun k => some (AV.int .u8 ((v.getD k 0).toNat : Int))) (k - off) else c.get k).get k = some (.int .u8 (((u ++ v).getD k 0).toNat : Int)) := by
  intro k hk
  rw [List.length_append] at hk
  show (bif off.ble k && k.blt b then some (AV.int .u8 ((v.getD (k - off) 0).toNat : Int)) else c.get k) = _
  by_cases hlt : k < u.length
  · have e : (off.ble k && k.blt b) = false := by
      rw [Bool.and_eq_false_iff]
      left
      cases hq : off.ble k with
      | false => rfl
      | true => have := Nat.le_of_ble_eq_true hq; omega
    rw [e, cond_false, h k hlt]
    congr 3
    simp [List.getD, List.getElem?_append_left hlt]
  · have e : (off.ble k && k.blt b) = true := by
      rw [Bool.and_eq_true]
      exact ⟨Nat.ble_eq_true_of_le (by omega), Nat.ble_eq_true_of_le (by omega)⟩
    rw [e, cond_true]
    congr 3
    simp only [List.getD]
    rw [List.getElem?_append_right (by omega), ho]

theorem has_none {c : T AV} : ∀ k, k < ([] : List UInt8).length → c.get k = some (.int .u8 ((([] : List UInt8).getD k 0).toNat : Int)) := fun k hk => absurd hk (by simp)

theorem bytes_cells : ∀ u : List UInt8, bytesA (byteCells u) = some u
  | [] => rfl
  | b :: r => by
    have ih := bytes_cells r
    unfold bytesA at ih ⊢
    rw [show byteCells (b :: r) = .int .u8 b.toNat :: byteCells r from rfl, mapO_cons, ih, show byteA (.int .u8 b.toNat) = some b from by show some (UInt8.ofNat (b.toNat : Int).toNat) = _; rw [Int.toNat_natCast, UInt8.ofNat_toNat]]

theorem cells_len (u : List UInt8) : (byteCells u).length = u.length := by simp [byteCells]

/-- A row that tells these bytes. -/
theorem row_bytes {c : T AV} {off : Nat} (u : List UInt8) (h : ∀ k, k < u.length → c.get (off + k) = some (.int .u8 ((u.getD k 0).toNat : Int))) : cellsStr (loadList c off u.length) = some (.str u) := by
  have hone : ∀ k, k < u.length → (byteCells u)[k]? = some (.int .u8 ((u.getD k 0).toNat : Int)) := fun k hk => by simp [byteCells, hk]
  obtain ⟨l, h1, _, h3, h4⟩ := loadList_some (c := c) (off := off) (n := u.length) fun k hk => ⟨_, h k hk, rfl⟩
  rw [h1]
  have : l = byteCells u := by
    apply List.ext_getElem?
    intro k
    by_cases hk : k < u.length
    · rw [hone k hk]
      exact h4 k _ hk (h k hk)
    · rw [List.getElem?_eq_none (by omega), List.getElem?_eq_none (by rw [cells_len]; omega)]
  rw [this]
  show strAV (bytesA (byteCells u)) = _
  rw [bytes_cells]
  rfl


theorem row_str {c : T AV} {u : List UInt8} {n : Nat} (hn : n = u.length) (h : ∀ k, k < u.length → c.get k = some (.int .u8 ((u.getD k 0).toNat : Int))) : cellsStr (loadList c 0 n) = some (.str u) := by
  subst hn
  exact row_bytes u (fun k hk => by rw [Nat.zero_add]; exact h k hk)

end Go.Proofs.Ytdpgaemeapeilaa.pth
