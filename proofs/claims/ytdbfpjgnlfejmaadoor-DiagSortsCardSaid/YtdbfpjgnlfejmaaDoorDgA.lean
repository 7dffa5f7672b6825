/- Diagnostics as values: their order, lists without twins, rows of them. -/
import Derived.Test.YtdbfpjgnlfejmaaDoorMaP
import Derived.Sort.Statements
import Derived.Shelf.SlSortCmp.Insertion
set_option maxRecDepth 100000
set_option linter.unusedVariables false
namespace Go.Proofs.YtdbfpjgnlfejmaaDoor.dg
open Go Ev

abbrev Dg := List UInt8 × Int × Int

/-! ## Their order -/

def ci (a b : Int) : Int := if a < b then -1 else if a > b then 1 else 0
def cf (x y : Dg) : Int := if Lib.compareBytes x.1 y.1 ≠ 0 then Lib.compareBytes x.1 y.1 else if ci x.2.1 y.2.1 ≠ 0 then ci x.2.1 y.2.1 else ci x.2.2 y.2.2
def Lt (x y : Dg) : Prop := x.1 < y.1 ∨ x.1 = y.1 ∧ (x.2.1 < y.2.1 ∨ x.2.1 = y.2.1 ∧ x.2.2 < y.2.2)

theorem bl_irrefl (a : List UInt8) : ¬ a < a := List.lt_irrefl a
theorem bl_trans {a b c : List UInt8} (h : a < b) (k : b < c) : a < c := List.lt_trans h k
theorem bl_tri (a b : List UInt8) : a < b ∨ a = b ∨ b < a := by
  rcases List.le_total a b with h | h
  · by_cases e : a = b
    · exact .inr (.inl e)
    · exact .inl (by
        rcases Decidable.em (a < b) with k | k
        · exact k
        · exact absurd (List.le_antisymm h k) e)
  · by_cases e : a = b
    · exact .inr (.inl e)
    · exact .inr (.inr (by
        rcases Decidable.em (b < a) with k | k
        · exact k
        · exact absurd (List.le_antisymm h k).symm e))

theorem cb_cases : ∀ a b : List UInt8, (Lib.compareBytes a b = -1 ∧ a < b) ∨ (Lib.compareBytes a b = 0 ∧ a = b) ∨ (Lib.compareBytes a b = 1 ∧ b < a)
  | [], [] => .inr (.inl ⟨rfl, rfl⟩)
  | [], _ :: _ => .inl ⟨rfl, List.nil_lt_cons _ _⟩
  | _ :: _, [] => .inr (.inr ⟨rfl, List.nil_lt_cons _ _⟩)
  | x :: a, y :: b => by
    have ih := cb_cases a b
    unfold Lib.compareBytes
    by_cases h : x < y
    · rw [if_pos h]
      exact .inl ⟨rfl, List.cons_lt_cons_iff.2 (.inl h)⟩
    · rw [if_neg h]
      by_cases k : y < x
      · rw [if_pos k]
        exact .inr (.inr ⟨rfl, List.cons_lt_cons_iff.2 (.inl k)⟩)
      · rw [if_neg k]
        have e : x = y := UInt8.toNat_inj.1 (by
          rw [UInt8.lt_iff_toNat_lt] at h k
          omega)
        subst e
        rcases ih with ⟨h1, h2⟩ | ⟨h1, h2⟩ | ⟨h1, h2⟩
        · exact .inl ⟨h1, List.cons_lt_cons_iff.2 (.inr ⟨rfl, h2⟩)⟩
        · exact .inr (.inl ⟨h1, by rw [h2]⟩)
        · exact .inr (.inr ⟨h1, List.cons_lt_cons_iff.2 (.inr ⟨rfl, h2⟩)⟩)

theorem ci_cases (a b : Int) : (ci a b = -1 ∧ a < b) ∨ (ci a b = 0 ∧ a = b) ∨ (ci a b = 1 ∧ b < a) := by
  unfold ci
  by_cases h : a < b
  · rw [if_pos h]; exact .inl ⟨rfl, h⟩
  · rw [if_neg h]
    by_cases k : a > b
    · rw [if_pos k]; exact .inr (.inr ⟨rfl, k⟩)
    · rw [if_neg k]; exact .inr (.inl ⟨rfl, by omega⟩)

theorem cf_cases (x y : Dg) : (cf x y = -1 ∧ Lt x y) ∨ (cf x y = 0 ∧ x = y) ∨ (cf x y = 1 ∧ Lt y x) := by
  obtain ⟨p, a, c⟩ := x
  obtain ⟨q, b, d⟩ := y
  unfold cf Lt
  rcases cb_cases p q with ⟨h1, h2⟩ | ⟨h1, rfl⟩ | ⟨h1, h2⟩
  · simp only [h1]
    exact .inl ⟨rfl, .inl h2⟩
  · simp only [h1]
    rcases ci_cases a b with ⟨k1, k2⟩ | ⟨k1, rfl⟩ | ⟨k1, k2⟩
    · simp only [k1]
      exact .inl ⟨rfl, .inr ⟨trivial, .inl k2⟩⟩
    · simp only [k1]
      rcases ci_cases c d with ⟨l1, l2⟩ | ⟨l1, rfl⟩ | ⟨l1, l2⟩
      · simp only [l1]
        exact .inl ⟨rfl, .inr ⟨trivial, .inr ⟨trivial, l2⟩⟩⟩
      · simp [l1]
      · simp only [l1]
        exact .inr (.inr ⟨rfl, .inr ⟨trivial, .inr ⟨trivial, l2⟩⟩⟩)
    · simp only [k1]
      exact .inr (.inr ⟨rfl, .inr ⟨trivial, .inl k2⟩⟩)
  · simp only [h1]
    exact .inr (.inr ⟨rfl, .inl h2⟩)

theorem Lt.irrefl (x : Dg) : ¬ Lt x x := by
  unfold Lt
  rintro (h | ⟨_, h | ⟨_, h⟩⟩)
  · exact bl_irrefl _ h
  · omega
  · omega

theorem Lt.trans {x y z : Dg} (h : Lt x y) (k : Lt y z) : Lt x z := by
  unfold Lt at *
  rcases h with h | ⟨h0, h⟩ <;> rcases k with k | ⟨k0, k⟩
  · exact .inl (bl_trans h k)
  · exact .inl (k0 ▸ h)
  · exact .inl (h0 ▸ k)
  · refine .inr ⟨h0.trans k0, ?_⟩
    omega

theorem Lt.asymm {x y : Dg} (h : Lt x y) : ¬ Lt y x := fun k => Lt.irrefl x (h.trans k)

theorem lt_iff (x y : Dg) : ltOf cf x y = true ↔ Lt x y := by
  unfold ltOf
  rw [decide_eq_true_iff]
  rcases cf_cases x y with ⟨h1, h2⟩ | ⟨h1, rfl⟩ | ⟨h1, h2⟩
  · exact ⟨fun _ => h2, fun _ => by omega⟩
  · exact ⟨fun h => by omega, fun h => absurd h (Lt.irrefl _)⟩
  · exact ⟨fun h => by omega, fun h => absurd h h2.asymm⟩

theorem lt_not (x y : Dg) : ltOf cf x y = false ↔ ¬ Lt x y := by rw [← lt_iff, Bool.not_eq_true]

theorem Lt.tri (x y : Dg) : Lt x y ∨ x = y ∨ Lt y x := by
  rcases cf_cases x y with ⟨_, h⟩ | ⟨_, h⟩ | ⟨_, h⟩
  · exact .inl h
  · exact .inr (.inl h)
  · exact .inr (.inr h)

theorem swo : Go.Sort.SWO (ltOf cf) where
  irrefl x := (lt_not x x).2 (Lt.irrefl x)
  trans x y z h k := (lt_iff x z).2 (((lt_iff x y).1 h).trans ((lt_iff y z).1 k))
  ntrans x y z h k := (lt_not x z).2 (by
    have h := (lt_not x y).1 h
    have k := (lt_not y z).1 k
    intro l
    rcases Lt.tri y x with a | a | a
    · exact k (a.trans l)
    · subst a; exact k l
    · exact h a)

/-! ## Lists -/

/-- They rise, but for twins. -/
def Up (l : List Dg) : Prop := l.Pairwise fun x y => ¬ Lt y x
def Ups (l : List Dg) : Prop := l.Pairwise Lt

/-- Without those that are like the one ahead. -/
def dl : Dg → List Dg → List Dg
  | _, [] => []
  | p, x :: r => if x = p then dl x r else x :: dl x r
def ded : List Dg → List Dg
  | [] => []
  | x :: r => x :: dl x r

theorem mem_dl : ∀ (l : List Dg) (p x : Dg), (x = p ∨ x ∈ dl p l) ↔ (x = p ∨ x ∈ l)
  | [], p, x => by simp [dl]
  | y :: r, p, x => by
    have ih := mem_dl r y x
    unfold dl
    by_cases h : y = p
    · rw [if_pos h]
      subst h
      rw [ih, List.mem_cons]
      constructor
      · rintro (h | h)
        · exact .inl h
        · exact .inr (.inr h)
      · rintro (h | h | h)
        · exact .inl h
        · exact .inl h
        · exact .inr h
    · rw [if_neg h, List.mem_cons, List.mem_cons, ih]

theorem mem_ded (l : List Dg) (x : Dg) : x ∈ ded l ↔ x ∈ l := by
  cases l with
  | nil => exact Iff.rfl
  | cons y r =>
    unfold ded
    rw [List.mem_cons, List.mem_cons]
    exact mem_dl r y x

theorem dl_ups : ∀ (l : List Dg) (p : Dg), Up (p :: l) → Ups (p :: dl p l)
  | [], p, _ => List.pairwise_singleton _ _
  | y :: r, p, h => by
    have h1 := List.pairwise_cons.1 h
    have ih := dl_ups r y h1.2
    unfold dl
    by_cases e : y = p
    · rw [if_pos e]
      subst e
      exact ih
    · rw [if_neg e]
      refine List.pairwise_cons.2 ⟨fun z hz => ?_, ih⟩
      have hpy : Lt p y := by
        rcases Lt.tri p y with a | a | a
        · exact a
        · exact absurd a.symm e
        · exact absurd a (h1.1 y (.head _))
      rcases List.mem_cons.1 hz with rfl | hz
      · exact hpy
      · exact hpy.trans ((List.pairwise_cons.1 ih).1 z hz)

theorem ded_ups {l : List Dg} (h : Up l) : Ups (ded l) := by
  cases l with
  | nil => exact .nil
  | cons y r => exact dl_ups r y h

/-- There is one such list alone. -/
theorem ups_ext : ∀ {l m : List Dg}, Ups l → Ups m → (∀ x, x ∈ l ↔ x ∈ m) → l = m
  | [], [], _, _, _ => rfl
  | [], y :: m, _, _, h => absurd ((h y).2 (.head _)) (by simp)
  | x :: l, [], _, _, h => absurd ((h x).1 (.head _)) (by simp)
  | x :: l, y :: m, hl, hm, h => by
    have h1 := List.pairwise_cons.1 hl
    have h2 := List.pairwise_cons.1 hm
    have e : x = y := by
      rcases List.mem_cons.1 ((h x).1 (.head _)) with e | e
      · exact e
      · rcases List.mem_cons.1 ((h y).2 (.head _)) with e' | e'
        · exact e'.symm
        · exact absurd (h2.1 x e) (h1.1 y e').asymm
    subst e
    rw [ups_ext h1.2 h2.2 fun z => ⟨fun hz => ?_, fun hz => ?_⟩]
    · rcases List.mem_cons.1 ((h z).1 (.tail _ hz)) with e | e
      · subst e; exact absurd (h1.1 z hz) (Lt.irrefl z)
      · exact e
    · rcases List.mem_cons.1 ((h z).2 (.tail _ hz)) with e | e
      · subst e; exact absurd (h2.1 z hz) (Lt.irrefl z)
      · exact e

/-- May it be told? -/
def mayB (d : Dg) : Bool := decide (1 ≤ d.2.2 ∧ d.2.2 ≤ 13 ∧ 0 ≤ d.2.1 ∧ d.2.1 ≤ 2147483647 ∧ d.1.length ≤ 200)

/-- The list of those that may be told, each once, in order. -/
def So (l m : List Dg) : Prop := Ups m ∧ ∀ x, x ∈ m ↔ x ∈ l ∧ mayB x = true

theorem So.uniq {l l' m m' : List Dg} (h : So l m) (h' : So l' m') (e : ∀ x, x ∈ l ↔ x ∈ l') : m = m' :=
  ups_ext h.1 h'.1 fun x => by rw [h.2, h'.2, e]

theorem So.self {l m : List Dg} (h : So l m) : So m m := ⟨h.1, fun x => ⟨fun hx => ⟨hx, ((h.2 x).1 hx).2⟩, fun hx => hx.1⟩⟩

/-! ## Rows -/

def el (f : Nat → Dg) (k : Nat) : AV := bif Nat.beq (k % 3) 0 then .str (f (k / 3)).1 else bif Nat.beq (k % 3) 1 then .int .i64 (f (k / 3)).2.1 else .int .i64 (f (k / 3)).2.2
def sc (d : Dg) : List AV := [.str d.1, .int .i64 d.2.1, .int .i64 d.2.2]
def upd {α : Type} (f : Nat → α) (i : Nat) (x : α) (j : Nat) : α := if j = i then x else f j
def clr {α : Type} (f : Nat → α) (i n : Nat) (x : α) (j : Nat) : α := if i ≤ j ∧ j < n then x else f j
def zd : Dg := ([], 0, 0)

theorem el_plain (f : Nat → Dg) : PlainFn fun c => some (el f c) := by
  intro k v h
  cases h
  unfold el
  cases Nat.beq (k % 3) 0 <;> cases Nat.beq (k % 3) 1 <;> rfl

theorem el0 (f : Nat → Dg) (u : Nat) : el f (0 + u * 3) = .str (f u).1 := by
  unfold el
  rw [show (0 + u * 3) % 3 = 0 by omega, show (0 + u * 3) / 3 = u by omega]
  rfl
theorem el1 (f : Nat → Dg) (u : Nat) : el f (0 + u * 3 + 1) = .int .i64 (f u).2.1 := by
  unfold el
  rw [show (0 + u * 3 + 1) % 3 = 1 by omega, show (0 + u * 3 + 1) / 3 = u by omega]
  rfl
theorem el2 (f : Nat → Dg) (u : Nat) : el f (0 + u * 3 + 2) = .int .i64 (f u).2.2 := by
  unfold el
  rw [show (0 + u * 3 + 2) % 3 = 2 by omega, show (0 + u * 3 + 2) / 3 = u by omega]
  rfl

theorem agg_el (f : Nat → Dg) (u : Nat) : AV.agg [el f (0 + u * 3), el f (0 + u * 3 + 1), el f (0 + u * 3 + 2)] = AV.agg [.str (f u).1, .int .i64 (f u).2.1, .int .i64 (f u).2.2] := by
  rw [el0, el1, el2]

theorem el_at (f : Nat → Dg) (k : Nat) : (sc (f (k / 3)))[k % 3]? = some (el f k) := by
  have h : k % 3 = 0 ∨ k % 3 = 1 ∨ k % 3 = 2 := by omega
  unfold el sc
  rcases h with h | h | h <;> rw [h] <;> rfl

theorem put_el (f : Nat → Dg) (i : Nat) (d : Dg) (z : Nat) :
    Tells z (.fn fun k => some (el (upd f i d) k)) (.fn fun k => bif (0 + i * 3).ble k && k.blt (0 + i * 3 + (sc d).length) then (fun k => (sc d)[k]?) (k - (0 + i * 3)) else (T.fn fun c => some (el f c)).get k) := by
  intro k v hk h
  have h : some (el (upd f i d) k) = some v := h
  rw [← h]
  show (bif (0 + i * 3).ble k && k.blt (0 + i * 3 + 3) then (sc d)[k - (0 + i * 3)]? else some (el f k)) = _
  by_cases hin : i * 3 ≤ k ∧ k < i * 3 + 3
  · have e : ((0 + i * 3).ble k && k.blt (0 + i * 3 + 3)) = true := by
      rw [Bool.and_eq_true, Nat.ble_eq, Nat.blt_eq]; omega
    rw [e, cond_true, ← el_at, show k / 3 = i by omega, show k - (0 + i * 3) = k % 3 by omega]
    unfold upd
    rw [if_pos rfl]
  · have e : ((0 + i * 3).ble k && k.blt (0 + i * 3 + 3)) = false := by
      rw [← Bool.not_eq_true, Bool.and_eq_true, Nat.ble_eq, Nat.blt_eq]; omega
    rw [e, cond_false]
    have h1 : ¬ k / 3 = i := by omega
    unfold el upd
    rw [if_neg h1]

theorem clr_el (f : Nat → Dg) (i n : Nat) (z : Nat) :
    Tells z (.fn fun k => some (el (clr f i n zd) k)) (.fn fun k => bif (0 + i * 3).ble k && k.blt (0 + i * 3 + (n - i) * (sc zd).length) then (fun k => (sc zd)[k % (sc zd).length]?) (k - (0 + i * 3)) else (T.fn fun c => some (el f c)).get k) := by
  intro k v hk h
  have h : some (el (clr f i n zd) k) = some v := h
  rw [← h]
  show (bif (0 + i * 3).ble k && k.blt (0 + i * 3 + (n - i) * 3) then (sc zd)[(k - (0 + i * 3)) % 3]? else some (el f k)) = _
  by_cases hin : i * 3 ≤ k ∧ k < i * 3 + (n - i) * 3
  · have e : ((0 + i * 3).ble k && k.blt (0 + i * 3 + (n - i) * 3)) = true := by
      rw [Bool.and_eq_true, Nat.ble_eq, Nat.blt_eq]; omega
    rw [e, cond_true, ← el_at, show (k - (0 + i * 3)) % 3 = k % 3 by omega]
    unfold clr
    rw [if_pos (by omega)]
  · have e : ((0 + i * 3).ble k && k.blt (0 + i * 3 + (n - i) * 3)) = false := by
      rw [← Bool.not_eq_true, Bool.and_eq_true, Nat.ble_eq, Nat.blt_eq]; omega
    rw [e, cond_false]
    have h1 : ¬ (i ≤ k / 3 ∧ k / 3 < n) := by omega
    unfold el clr
    rw [if_neg h1]

/-- A record laid behind others. -/
theorem app_el (f : Nat → Dg) (m : Nat) (p : List UInt8) (a c : Int) {s : Nat} (hs : s = 3) :
    Tells (0 + m * 3 + 3) (.fn fun k => some (el (upd f m (p, a, c)) k)) (.fn fun k => bif (0 + m * s).ble k && k.blt (0 + m * s + 1 * s) then (fun k => ((T.leaf.node (some (AV.int IntKind.i64 a)) T.leaf).node (some (AV.str p)) (T.leaf.node (some (AV.int IntKind.i64 c)) T.leaf)).get (0 + k)) (k - (0 + m * s)) else (T.fn fun c => some (el f c)).get k) := by
  subst hs
  intro k v hk h
  have h : some (el (upd f m (p, a, c)) k) = some v := h
  rw [← h]
  show (bif (0 + m * 3).ble k && k.blt (0 + m * 3 + 1 * 3) then ((T.leaf.node (some (AV.int IntKind.i64 a)) T.leaf).node (some (AV.str p)) (T.leaf.node (some (AV.int IntKind.i64 c)) T.leaf)).get (0 + (k - (0 + m * 3))) else some (el f k)) = _
  by_cases hin : m * 3 ≤ k
  · have e : ((0 + m * 3).ble k && k.blt (0 + m * 3 + 1 * 3)) = true := by
      rw [Bool.and_eq_true, Nat.ble_eq, Nat.blt_eq]; omega
    rw [e, cond_true, ← el_at, show k / 3 = m by omega, show 0 + (k - (0 + m * 3)) = k % 3 by omega]
    unfold upd
    rw [if_pos rfl]
    have hr : k % 3 = 0 ∨ k % 3 = 1 ∨ k % 3 = 2 := by omega
    rcases hr with h | h | h <;> rw [h] <;> rfl
  · have e : ((0 + m * 3).ble k && k.blt (0 + m * 3 + 1 * 3)) = false := by
      rw [← Bool.not_eq_true, Bool.and_eq_true, Nat.ble_eq, Nat.blt_eq]; omega
    rw [e, cond_false]
    have h1 : ¬ k / 3 = m := by omega
    unfold el upd
    rw [if_neg h1]

/-- The first record. -/
theorem fst_el (p : List UInt8) (a c : Int) : Tells 3 (.fn fun k => some (el (fun _ => (p, a, c)) k)) ((T.leaf.node (some (AV.int IntKind.i64 a)) T.leaf).node (some (AV.str p)) (T.leaf.node (some (AV.int IntKind.i64 c)) T.leaf)) := by
  intro k v hk h
  have h : some (el (fun _ => (p, a, c)) k) = some v := h
  rw [← h]
  have hr : k = 0 ∨ k = 1 ∨ k = 2 := by omega
  rcases hr with h | h | h <;> subst h <;> rfl

/-! ## Parts of rows as lists -/

def sl {α : Type} (s : Nat → α) : Nat → Nat → List α
  | _, 0 => []
  | j, r + 1 => s j :: sl s (j + 1) r

theorem sl_snoc {α : Type} (s : Nat → α) : ∀ r j, sl s j (r + 1) = sl s j r ++ [s (j + r)]
  | 0, j => rfl
  | r + 1, j => by
    show s j :: sl s (j + 1) (r + 1) = (s j :: sl s (j + 1) r) ++ [s (j + (r + 1))]
    rw [sl_snoc s r (j + 1), List.cons_append, show j + 1 + r = j + (r + 1) by omega]

theorem sl_congr {α : Type} {s s' : Nat → α} : ∀ r j, (∀ t, j ≤ t → t < j + r → s t = s' t) → sl s j r = sl s' j r
  | 0, _, _ => rfl
  | r + 1, j, h => by
    show s j :: sl s (j + 1) r = s' j :: sl s' (j + 1) r
    rw [h j (by omega) (by omega), sl_congr r (j + 1) fun t h1 h2 => h t (by omega) (by omega)]

theorem sl_len {α : Type} (s : Nat → α) : ∀ r j, (sl s j r).length = r
  | 0, _ => rfl
  | r + 1, j => by
    show (sl s (j + 1) r).length + 1 = r + 1
    rw [sl_len s r (j + 1)]

theorem sl_get {α : Type} (s : Nat → α) : ∀ r j i, i < r → (sl s j r)[i]? = some (s (j + i))
  | 0, _, i, h => by omega
  | r + 1, j, 0, _ => rfl
  | r + 1, j, i + 1, h => by
    show (sl s (j + 1) r)[i]? = _
    rw [sl_get s r (j + 1) i (by omega), show j + 1 + i = j + (i + 1) by omega]

theorem sl_mem {α : Type} {s : Nat → α} {x : α} : ∀ r j, x ∈ sl s j r → ∃ t, j ≤ t ∧ t < j + r ∧ s t = x
  | 0, _, h => by cases h
  | r + 1, j, h => by
    rcases List.mem_cons.1 h with e | h
    · exact ⟨j, by omega, by omega, e.symm⟩
    · obtain ⟨t, h1, h2, h3⟩ := sl_mem r (j + 1) h
      exact ⟨t, by omega, by omega, h3⟩

theorem sl_at {α : Type} (s : Nat → α) : ∀ r j t, j ≤ t → t < j + r → s t ∈ sl s j r
  | 0, j, t, h1, h2 => by omega
  | r + 1, j, t, h1, h2 => by
    by_cases e : t = j
    · subst e; exact .head _
    · exact .tail _ (sl_at s r (j + 1) t (by omega) (by omega))

end Go.Proofs.YtdbfpjgnlfejmaaDoor.dg
