/- The program's mark of any bytes with any key: two sums, one in the other. -/
import Derived.Test.YtcdgbadnnodbeaaDoorShaWj
set_option maxRecDepth 100000
namespace Go.Proofs.YtcdgbadnnodbeaaDoor.shaW
open Go Ev

/-! ## What is summed -/

/-- A sum's bytes as a text. -/
def sumB (f : Nat → Int) : List UInt8 := (List.range 32).map fun i => UInt8.ofNat (f i).toNat
def key1 (key : List UInt8) : List UInt8 := if key.length > 64 then sumB (sb key) else key
/-- A key's 64 bytes. -/
def kp (key : List UInt8) : List UInt8 := key1 key ++ List.replicate (64 - (key1 key).length) 0
def kb (key : List UInt8) (k : Nat) : Int := ((kp key).getD k 0).toNat
def xb (a y : Int) : Int := IntKind.u8.wrap ((BitVec.ofInt 8 a ^^^ BitVec.ofInt 8 y).toNat : Int)
/-- 64 bytes, turned by one. -/
def xs (b : Nat → Int) (y : Int) : List UInt8 := (List.range 64).map fun k => UInt8.ofNat (xb (b k) y).toNat
def inn (key s : List UInt8) : List UInt8 := xs (kb key) 54 ++ s
def out (key s : List UInt8) : List UInt8 := xs (kb key) 92 ++ sumB (sb (inn key s))

theorem sumB_len (f : Nat → Int) : (sumB f).length = 32 := by unfold sumB; rw [List.length_map, List.length_range]
theorem xs_len (b : Nat → Int) (y : Int) : (xs b y).length = 64 := by unfold xs; rw [List.length_map, List.length_range]
theorem key1_len (key : List UInt8) : (key1 key).length ≤ 64 := by
  unfold key1
  by_cases h : key.length > 64
  · rw [if_pos h, sumB_len]; decide
  · rw [if_neg h]; omega

theorem sb_range (s : List UInt8) (i : Nat) : 0 ≤ sb s i ∧ sb s i ≤ 255 := by
  unfold sb qb
  generalize Int.fdiv _ _ = x
  show 0 ≤ x % 256 ∧ x % 256 ≤ 255
  omega

theorem sumB_get (f : Nat → Int) (k : Nat) (hk : k < 32) : (sumB f).getD k 0 = UInt8.ofNat (f k).toNat := by
  unfold sumB
  rw [List.getD_eq_getElem?_getD, List.getElem?_map, List.getElem?_range hk]
  rfl

theorem byte_back {x : Int} (h : 0 ≤ x ∧ x ≤ 255) : ((UInt8.ofNat x.toNat).toNat : Int) = x := by
  rw [UInt8.toNat_ofNat']
  omega

theorem kb_key (key : List UInt8) (k : Nat) (hk : k < (key1 key).length) : kb key k = ((key1 key).getD k 0).toNat := by
  unfold kb kp
  rw [List.getD_eq_getElem?_getD, List.getElem?_append_left hk, ← List.getD_eq_getElem?_getD]

theorem kb_zero (key : List UInt8) (k : Nat) (hk : (key1 key).length ≤ k) : kb key k = 0 := by
  unfold kb kp
  rw [List.getD_eq_getElem?_getD, List.getElem?_append_right hk, List.getElem?_replicate]
  split <;> rfl

/-! ## The program's -/

noncomputable abbrev HK (b : Nat → Int) : AHeap := ⟨.node .leaf (some (.cells (.fn fun k => some (.int .u8 (b k))) 64 39 0 0 1 0 false .leaf)) .leaf, 1, GK⟩
noncomputable abbrev H20 (b : Nat → Int) : AHeap := ⟨.node (.node .leaf (some (.cells .leaf 64 39 0 0 1 0 false .leaf)) .leaf) (some (.cells (.fn fun k => some (.int .u8 (b k))) 64 39 0 0 1 0 false .leaf)) .leaf, 2, GK⟩
noncomputable abbrev Z64 : T AV := storeList .leaf 0 (List.replicate 64 (.int .u8 0))

theorem turnedE (b : Nat → Int) (y : Int) (R : AV → AHeap → Prop) (_K : AM → Prop) : Obl P 22 (fun v H => R v H) 1 _K [.run 1887, .told 1 .leaf 64, .done] (startH P 22 [.int .u8 y, .ptr 0 0 0] (HK b)) =
  (Tells 64 .leaf (storeList .leaf 0 ((List.range 64).map fun k => .int .u8 (xb (b k) y))) ∧ (64 = 64) ∧ R (.str (xs b y)) (H20 b)) := by kernel_rfl

theorem turned_ok (b : Nat → Int) (y : Int) : Goal P 1 22 (fun x h => x = .str (xs b y) ∧ h = H20 b) (startH P 22 [.int .u8 y, .ptr 0 0 0] (HK b)) :=
  Obl.goal (K := fun _ => False) mix (fun _ h => h.elim) (cast (turnedE b y _ _).symm ⟨tells_leaf _ _, rfl, rfl, rfl⟩)

theorem macA (key s l1 l2 : List UInt8) (b f g : Nat → Int) (R : AV → Prop) (_K : AM → Prop) : Obl P 20 (fun v _ => R v) 0 _K [.run 15, .know 11 false, .run 4, .opw false, .told 1 (.fn fun k => some (.int .u8 (b k))) 64, .run 10, .callh [(1, 1, [])] [0, 1] (.str l1) (H20 b), .run 1, .op, .run 1, .callv [0] (sm f), .run 9, .callh [(1, 1, [])] [0, 1] (.str l2) (H20 b), .op, .run 1, .callv [0] (sm g), .run 3, .done] (startM P 20 [.str key, .str s] GK) =
  ((decide ((key.length : Int) > 64) = false) ∧ (Nat.min key.length 64 ≤ key.length ∧ 0 + Nat.min key.length 64 * 1 ≤ 64 ∧ 0 ≤ 0) ∧ Tells 64 (.fn fun k => some (.int .u8 (b k))) (overT Z64 0 (Nat.min key.length 64 * 1) fun k => some (.int .u8 (key.getD k 0).toNat)) ∧ (64 = 64) ∧
    (PlainFn fun k => some (AV.int IntKind.u8 (b k))) ∧ (PlainFn fun k => some (AV.int IntKind.u8 (b k))) ∧ (Goal P 1 22 (fun x k => x = AV.str l1 ∧ k = H20 b) (startH P 22 [.int .u8 54, .ptr 0 0 0] (HK b))) ∧ (l1.length + s.length < 1099511627776) ∧ (Goal P 0 21 (fun x _ => x = sm f) (startM P 21 [.str (l1 ++ s)] GK)) ∧
    (PlainFn fun k => some (AV.int IntKind.u8 (b k))) ∧ (PlainFn fun k => some (AV.int IntKind.u8 (b k))) ∧ (Goal P 1 22 (fun x k => x = AV.str l2 ∧ k = H20 b) (startH P 22 [.int .u8 92, .ptr 0 0 0] (HK b))) ∧ (some (AV.str (sumB f)) = some (AV.str (sumB f))) ∧ (some (AV.slc 3 0 0 32 32) = some (AV.slc 3 0 0 32 32)) ∧ (l2.length + (sumB f).length < 1099511627776) ∧
    (Goal P 0 21 (fun x _ => x = sm g) (startM P 21 [.str (l2 ++ sumB f)] GK)) ∧ R (sm g)) := by kernel_rfl

theorem macB (key s l1 l2 : List UInt8) (b e f g : Nat → Int) (R : AV → Prop) (_K : AM → Prop) : Obl P 20 (fun v _ => R v) 0 _K [.run 15, .know 11 true, .run 5, .callv [0] (sm e), .run 12, .told 1 (.fn fun k => some (.int .u8 (b k))) 64, .run 5, .callh [(1, 1, [])] [0, 1] (.str l1) (H20 b), .run 1, .op, .run 1, .callv [0] (sm f), .run 9, .callh [(1, 1, [])] [0, 1] (.str l2) (H20 b), .op, .run 1, .callv [0] (sm g), .run 3, .done] (startM P 20 [.str key, .str s] GK) =
  ((decide ((key.length : Int) > 64) = true) ∧ (Goal P 0 21 (fun x _ => x = sm e) (startM P 21 [.str key] GK)) ∧ Tells 64 (.fn fun k => some (.int .u8 (b k))) (storeList Z64 0 ((List.range 32).map fun i => .int .u8 (e i))) ∧ (64 = 64) ∧
    (PlainFn fun k => some (AV.int IntKind.u8 (b k))) ∧ (PlainFn fun k => some (AV.int IntKind.u8 (b k))) ∧ (Goal P 1 22 (fun x k => x = AV.str l1 ∧ k = H20 b) (startH P 22 [.int .u8 54, .ptr 0 0 0] (HK b))) ∧ (l1.length + s.length < 1099511627776) ∧ (Goal P 0 21 (fun x _ => x = sm f) (startM P 21 [.str (l1 ++ s)] GK)) ∧
    (PlainFn fun k => some (AV.int IntKind.u8 (b k))) ∧ (PlainFn fun k => some (AV.int IntKind.u8 (b k))) ∧ (Goal P 1 22 (fun x k => x = AV.str l2 ∧ k = H20 b) (startH P 22 [.int .u8 92, .ptr 0 0 0] (HK b))) ∧ (some (AV.str (sumB f)) = some (AV.str (sumB f))) ∧ (some (AV.slc 4 0 0 32 32) = some (AV.slc 4 0 0 32 32)) ∧ (l2.length + (sumB f).length < 1099511627776) ∧
    (Goal P 0 21 (fun x _ => x = sm g) (startM P 21 [.str (l2 ++ sumB f)] GK)) ∧ R (sm g)) := by kernel_rfl

theorem z64_get (k : Nat) (hk : k < 64) : Z64.get k = some (.int .u8 0) := by
  rw [storeList_get, if_pos ⟨Nat.zero_le _, by simpa using hk⟩, Nat.sub_zero, List.getElem?_replicate, if_pos hk]

/-- The program's mark. -/
theorem mac_ok (key s : List UInt8) (hk : key.length < 2 ^ 40 - 200) (hs : s.length < 2 ^ 40 - 400) : Goal P 0 20 (fun x _ => x = sm (sb (out key s))) (startM P 20 [.str key, .str s] GK) := by
  have g1 := sum_sm (inn key s) (by unfold inn; rw [List.length_append, xs_len]; omega)
  have g2 := sum_sm (out key s) (by unfold out; rw [List.length_append, xs_len, sumB_len]; decide)
  by_cases h : key.length > 64
  · have e1 : key1 key = sumB (sb key) := by unfold key1; rw [if_pos h]
    have hl : (key1 key).length = 32 := by rw [e1, sumB_len]
    refine Obl.goal (K := fun _ => False) mix (fun _ h => h.elim) (cast (macB key s (xs (kb key) 54) (xs (kb key) 92) (kb key) (sb key) (sb (inn key s)) (sb (out key s)) (fun x => x = sm (sb (out key s))) _).symm
      ⟨decide_eq_true (by omega), sum_sm key hk, fun k v hk e => ?_, rfl, plain_int _ _, plain_int _ _, turned_ok _ _, by rw [xs_len]; omega, g1, plain_int _ _, plain_int _ _, turned_ok _ _, rfl, rfl, by rw [xs_len, sumB_len]; decide, g2, rfl⟩)
    change some (AV.int .u8 (kb key k)) = some v at e
    rw [← e, storeList_get, List.length_map, List.length_range]
    by_cases h32 : k < 32
    · rw [if_pos ⟨Nat.zero_le _, by omega⟩, Nat.sub_zero, List.getElem?_map, List.getElem?_range h32, kb_key key k (by omega), e1, sumB_get _ _ h32, byte_back (sb_range key k)]
      rfl
    · rw [if_neg (by omega), z64_get k hk, kb_zero key k (by omega)]
  · have e1 : key1 key = key := by unfold key1; rw [if_neg h]
    have hmin : Nat.min key.length 64 = key.length := Nat.min_eq_left (by omega)
    refine Obl.goal (K := fun _ => False) mix (fun _ h => h.elim) (cast (macA key s (xs (kb key) 54) (xs (kb key) 92) (kb key) (sb (inn key s)) (sb (out key s)) (fun x => x = sm (sb (out key s))) _).symm
      ⟨decide_eq_false (by omega), by rw [hmin]; omega, fun k v hk e => ?_, rfl, plain_int _ _, plain_int _ _, turned_ok _ _, by rw [xs_len]; omega, g1, plain_int _ _, plain_int _ _, turned_ok _ _, rfl, rfl, by rw [xs_len, sumB_len]; decide, g2, rfl⟩)
    change some (AV.int .u8 (kb key k)) = some v at e
    rw [← e, over_get, hmin]
    by_cases hlt : k < key.length
    · rw [if_pos ⟨Nat.zero_le _, by omega⟩, kb_key key k (by rw [e1]; exact hlt), e1]
      rfl
    · rw [if_neg (by omega), z64_get k hk, kb_zero key k (by rw [e1]; omega)]

end Go.Proofs.YtcdgbadnnodbeaaDoor.shaW
