/- The program's SHA-256 of any text: the row that is filled up, and the loop over its blocks. -/
import Derived.Test.YtcdgbadnnodbeaaDoorShaWd
set_option maxRecDepth 100000
namespace Go.Proofs.YtcdgbadnnodbeaaDoor.shaW
open Go Ev

/-! ## What a text is filled up to -/

def nz (n : Nat) : Nat := 63 - (n + 8) % 64
def tailB (n : Nat) : List UInt8 := (List.range 8).map fun j => UInt8.ofNat (8 * n / 2 ^ (56 - 8 * j))
def ml (s : List UInt8) : List UInt8 := s ++ (128 :: (List.replicate (nz s.length) 0 ++ tailB s.length))
def mb (s : List UInt8) (k : Nat) : UInt8 := (ml s).getD k 0

theorem ml_len (s : List UInt8) : (ml s).length = s.length + 1 + nz s.length + 8 := by
  simp [ml, tailB]; omega

theorem ml_blocks (s : List UInt8) : (ml s).length % 64 = 0 := by
  rw [ml_len]; unfold nz; omega

theorem mb_text (s : List UInt8) (k : Nat) (h : k < s.length) : mb s k = s.getD k 0 := by
  unfold mb ml
  rw [List.getD_eq_getElem?_getD, List.getD_eq_getElem?_getD, List.getElem?_append_left h]

theorem mb_mark (s : List UInt8) : mb s s.length = 128 := by
  unfold mb ml
  rw [List.getD_eq_getElem?_getD, List.getElem?_append_right (Nat.le_refl _), Nat.sub_self]
  rfl

theorem mb_zero (s : List UInt8) (k : Nat) (h1 : s.length + 1 ≤ k) (h2 : k < s.length + 1 + nz s.length) : mb s k = 0 := by
  unfold mb ml
  rw [List.getD_eq_getElem?_getD, List.getElem?_append_right (by omega), show k - s.length = (k - (s.length + 1)) + 1 by omega, List.getElem?_cons_succ, List.getElem?_append_left (by rw [List.length_replicate]; omega), List.getElem?_replicate]
  rw [if_pos (by omega)]
  rfl

theorem mb_tail (s : List UInt8) (j : Nat) (h : j < 8) : mb s (s.length + 1 + nz s.length + j) = UInt8.ofNat (8 * s.length / 2 ^ (56 - 8 * j)) := by
  unfold mb ml
  rw [List.getD_eq_getElem?_getD, List.getElem?_append_right (by omega), show s.length + 1 + nz s.length + j - s.length = (nz s.length + j) + 1 by omega, List.getElem?_cons_succ, List.getElem?_append_right (by rw [List.length_replicate]; omega), List.length_replicate]
  unfold tailB
  rw [show nz s.length + j - nz s.length = j by omega, List.getElem?_map, List.getElem?_range h]
  rfl

/-! ## The program's row -/

def one1 (x : Int) : T AV := .node .leaf (some (.int .u8 x)) .leaf
def ApOne (x : Int) (len c : Nat) : Prop := (0 + 1 * 1 ≤ 1 ∧ ∀ k, k < 1 * 1 → ∃ v, T.get (one1 x) (0 + k) = some v ∧ AV.one v = true) ∧ len + 1 ≤ c ∧ 0 + len * 1 + 1 * 1 ≤ c ∧ 0 ≤ 0 + len * 1 ∧ True
noncomputable def ap (t : T AV) (len : Nat) (x : Int) : T AV := overT t (0 + len * 1) (1 * 1) fun k => T.get (one1 x) (0 + k)
def qb (q : Int) (j : Nat) : Int := IntKind.u8.wrap (q.fdiv (2 ^ j))

theorem apOne_ok {x : Int} {len c : Nat} (h : len + 1 ≤ c) : ApOne x len c := by
  refine ⟨⟨by decide, fun k hk => ?_⟩, h, by omega, Nat.zero_le _, trivial⟩
  obtain rfl : k = 0 := by omega
  exact ⟨_, rfl, rfl⟩

theorem filledE (G : T (T AV)) (s : List UInt8) (z c q : Int) (b : Nat → Int) (R : AV → AHeap → Prop) (_K : AM → Prop) : Obl P 23 (fun v H => R v H) 0 _K [.run 11, .slot 11 (.int .i64 z), .run 10, .slot 17 (.int .i64 c), .opw false, .run 1, .opw false, .run 6, .opw false, .run 6, .opw false, .run 8, .slot 30 (.int .u64 q), .run 32, .opw false, .run 31, .opw false, .run 31, .opw false, .run 31, .opw false, .run 31, .opw false, .run 31, .opw false, .run 31, .opw false, .run 31, .opw false, .run 18, .told 0 (.fn fun k => some (.int .u8 (b k))) c.toNat, .can 0 [0] [44] [], .run 3, .done] (startM P 23 [.str s] G) =
  ((AV.int IntKind.i64 (IntKind.i64.wrap (63 - (IntKind.i64.wrap ((s.length : Int) + 8)).tmod 64)) = AV.int IntKind.i64 z) ∧
   (AV.int IntKind.i64 (IntKind.i64.wrap (IntKind.i64.wrap (IntKind.i64.wrap ((s.length : Int) + 1) + z) + 8)) = AV.int IntKind.i64 c) ∧
   (0 ≤ (0 : Int) ∧ 0 ≤ c ∧ c < 2 ^ 40 ∧ ((1 : Nat) : Int) * c ≤ 2 ^ 48) ∧
   (s.length ≤ s.length ∧ 0 + s.length ≤ c.toNat ∧ 0 + 0 * 1 + s.length * 1 ≤ c.toNat ∧ 0 ≤ 0 + 0 * 1 ∧ True) ∧
   ApOne 128 (0 + s.length) c.toNat ∧
   (((0 ≤ z ∧ z < 2 ^ 40) ∧ z.toNat * 1 ≤ 2 ^ 48) ∧ 0 + s.length + 1 + z.toNat ≤ c.toNat ∧ 0 + (0 + s.length + 1) * 1 + z.toNat * 1 ≤ c.toNat ∧ 0 ≤ 0 + (0 + s.length + 1) * 1 ∧ True) ∧
   (AV.int IntKind.u64 (IntKind.u64.wrap (IntKind.u64.wrap (s.length : Int) * 8)) = AV.int IntKind.u64 q) ∧
   ApOne (qb q 56) (0 + s.length + 1 + z.toNat) c.toNat ∧
   ApOne (qb q 48) (0 + s.length + 1 + z.toNat + 1) c.toNat ∧
   ApOne (qb q 40) (0 + s.length + 1 + z.toNat + 1 + 1) c.toNat ∧
   ApOne (qb q 32) (0 + s.length + 1 + z.toNat + 1 + 1 + 1) c.toNat ∧
   ApOne (qb q 24) (0 + s.length + 1 + z.toNat + 1 + 1 + 1 + 1) c.toNat ∧
   ApOne (qb q 16) (0 + s.length + 1 + z.toNat + 1 + 1 + 1 + 1 + 1) c.toNat ∧
   ApOne (qb q 8) (0 + s.length + 1 + z.toNat + 1 + 1 + 1 + 1 + 1 + 1) c.toNat ∧
   ApOne (qb q 0) (0 + s.length + 1 + z.toNat + 1 + 1 + 1 + 1 + 1 + 1 + 1) c.toNat ∧
   Tells c.toNat (.fn fun k => some (.int .u8 (b k))) (ap (ap (ap (ap (ap (ap (ap (ap (overT (ap (overT (.fn fun _ => some (.int .u8 0)) (0 + 0 * 1) (s.length * 1) fun k => some (.int .u8 (s.getD k 0).toNat)) (0 + s.length) 128) (0 + (0 + s.length + 1) * 1) (z.toNat * 1) fun _ => some (.int .u8 0)) (0 + s.length + 1 + z.toNat) (qb q 56)) (0 + s.length + 1 + z.toNat + 1) (qb q 48)) (0 + s.length + 1 + z.toNat + 1 + 1) (qb q 40)) (0 + s.length + 1 + z.toNat + 1 + 1 + 1) (qb q 32)) (0 + s.length + 1 + z.toNat + 1 + 1 + 1 + 1) (qb q 24)) (0 + s.length + 1 + z.toNat + 1 + 1 + 1 + 1 + 1) (qb q 16)) (0 + s.length + 1 + z.toNat + 1 + 1 + 1 + 1 + 1 + 1) (qb q 8)) (0 + s.length + 1 + z.toNat + 1 + 1 + 1 + 1 + 1 + 1 + 1) (qb q 0)) ∧
   (c.toNat = c.toNat) ∧
   (PlainFn fun k => some (AV.int IntKind.u8 (b k))) ∧
   R (.slc 0 0 0 (0 + s.length + 1 + z.toNat + 1 + 1 + 1 + 1 + 1 + 1 + 1 + 1) c.toNat) (HB G b c.toNat)) := by kernel_rfl

/-- The row holds these bytes as far as n. -/
def On (n : Nat) (b : Nat → Int) (t : T AV) : Prop := ∀ k, k < n → t.get k = some (.int .u8 (b k))

theorem over_get (t : T AV) (off n : Nat) (f : Nat → Option AV) (k : Nat) : (overT t off n f).get k = if off ≤ k ∧ k < off + n then f (k - off) else t.get k := by
  show (bif Nat.ble off k && Nat.blt k (off + n) then f (k - off) else t.get k) = _
  by_cases h : off ≤ k ∧ k < off + n
  · rw [if_pos h, Nat.ble_eq_true_of_le h.1, show Nat.blt k (off + n) = true from Nat.ble_eq_true_of_le h.2]; rfl
  · rw [if_neg h]
    cases hb : (Nat.ble off k && Nat.blt k (off + n)) with
    | false => rfl
    | true =>
      rw [Bool.and_eq_true] at hb
      exact absurd ⟨Nat.le_of_ble_eq_true hb.1, Nat.le_of_ble_eq_true hb.2⟩ h

theorem On.over {n m : Nat} {b : Nat → Int} {t : T AV} {f : Nat → Option AV} (h : On n b t) (hf : ∀ k, k < m → f k = some (.int .u8 (b (n + k)))) : On (n + m) b (overT t (0 + n * 1) (m * 1) f) := fun k hk => by
  rw [over_get]
  by_cases h1 : n ≤ k
  · rw [if_pos (by omega), hf _ (by omega)]
    congr 3
    omega
  · rw [if_neg (by omega)]
    exact h k (by omega)

theorem On.ap {n : Nat} {b : Nat → Int} {t : T AV} {x : Int} (h : On n b t) (hx : b n = x) : On (n + 1) b (ap t n x) :=
  h.over fun k hk => by
    obtain rfl : k = 0 := by omega
    rw [← hx]; rfl

theorem On.tells {n m : Nat} {b : Nat → Int} {t : T AV} (h : On n b t) (hm : m = n) : Tells m (.fn fun k => some (.int .u8 (b k))) t := fun k v hk e => (h k (by omega)).trans e

theorem qb_ok (n j : Nat) (_h : 8 * n < 2 ^ 64) : qb (8 * n : Nat) j = ((UInt8.ofNat (8 * n / 2 ^ j)).toNat : Int) := by
  unfold qb
  rw [Int.fdiv_eq_ediv_of_nonneg _ (Int.le_of_lt (Int.pow_pos (by decide))), show ((2 : Int) ^ j) = ((2 ^ j : Nat) : Int) by push_cast; rfl, ← Int.natCast_ediv]
  show ((8 * n / 2 ^ j : Nat) : Int) % 256 = _
  rw [UInt8.toNat_ofNat']
  norm_cast

/-- The row that is filled up. -/
theorem filled_ok (G : T (T AV)) (s : List UInt8) (hs : s.length < 2 ^ 40 - 200) :
    Goal P 0 23 (fun v H => v = .slc 0 0 0 (ml s).length (ml s).length ∧ H = HB G (fun k => ((mb s k).toNat : Int)) (ml s).length) (startM P 23 [.str s] G) := by
  have hl := ml_len s
  have hz : nz s.length ≤ 63 := by unfold nz; omega
  have e1 : IntKind.i64.wrap ((s.length : Int) + 8) = ((s.length + 8 : Nat) : Int) := by rw [IntWalk.i64_in _ (by omega)]; rfl
  have e2 : IntKind.i64.wrap (63 - (((s.length + 8 : Nat) : Int)).tmod 64) = ((nz s.length : Nat) : Int) := by
    rw [Int.tmod_eq_emod_of_nonneg (by omega), IntWalk.i64_in _ (by omega)]
    unfold nz; omega
  have e3 : IntKind.i64.wrap (IntKind.i64.wrap (IntKind.i64.wrap ((s.length : Int) + 1) + (nz s.length : Int)) + 8) = (((ml s).length : Nat) : Int) := by
    rw [IntWalk.i64_in ((s.length : Int) + 1) (by omega), IntWalk.i64_in ((s.length : Int) + 1 + (nz s.length : Int)) (by omega), IntWalk.i64_in _ (by omega), hl]
    push_cast; omega
  have e4 : IntKind.u64.wrap (IntKind.u64.wrap (s.length : Int) * 8) = ((8 * s.length : Nat) : Int) := by
    rw [IntWalk.u64_in (s.length : Int) (by omega), IntWalk.u64_in _ (by omega)]
    push_cast; omega
  have hb : 8 * s.length < 2 ^ 64 := by omega
  have z0 : ((nz s.length : Nat) : Int).toNat = nz s.length := Int.toNat_natCast _
  have c0 : (((ml s).length : Nat) : Int).toNat = (ml s).length := Int.toNat_natCast _
  refine Obl.goal (K := fun _ => False) mix (fun _ h => h.elim) (cast (filledE G s (nz s.length : Nat) ((ml s).length : Nat) (8 * s.length : Nat) (fun k => ((mb s k).toNat : Int)) _ _).symm ?_)
  rw [z0, c0, e1, e2, e3, e4]
  refine ⟨rfl, rfl, by omega, ⟨Nat.le_refl _, by omega, by omega, Nat.zero_le _, trivial⟩, apOne_ok (by omega), ⟨⟨by omega, by omega⟩, by omega, by omega, Nat.zero_le _, trivial⟩, rfl,
    apOne_ok (by omega), apOne_ok (by omega), apOne_ok (by omega), apOne_ok (by omega), apOne_ok (by omega), apOne_ok (by omega), apOne_ok (by omega), apOne_ok (by omega), ?_, rfl, plain_int _ _, ?_, ?_⟩
  · have t (j : Nat) (hj : j < 8) (k : Nat) (hk : k = s.length + 1 + nz s.length + j) : ((mb s k).toNat : Int) = qb (8 * s.length : Nat) (56 - 8 * j) := by rw [hk, mb_tail s j hj, qb_ok _ _ hb]
    have o0 : On 0 (fun k => ((mb s k).toNat : Int)) (.fn fun _ => some (.int .u8 0)) := fun k hk => absurd hk (Nat.not_lt_zero k)
    have o1 := o0.over (m := s.length) (f := fun k => some (.int .u8 (s.getD k 0).toNat)) fun k hk => by rw [Nat.zero_add, mb_text s k hk]
    have o2 := o1.ap (x := 128) (by rw [Nat.zero_add, mb_mark]; rfl)
    have o3 := o2.over (m := nz s.length) (f := fun _ => some (.int .u8 0)) fun k hk => by rw [mb_zero s _ (by omega) (by omega)]; rfl
    have o4 := o3.ap (t 0 (by decide) _ (by omega))
    have o5 := o4.ap (t 1 (by decide) _ (by omega))
    have o6 := o5.ap (t 2 (by decide) _ (by omega))
    have o7 := o6.ap (t 3 (by decide) _ (by omega))
    have o8 := o7.ap (t 4 (by decide) _ (by omega))
    have o9 := o8.ap (t 5 (by decide) _ (by omega))
    have o10 := o9.ap (t 6 (by decide) _ (by omega))
    have o11 := o10.ap (t 7 (by decide) _ (by omega))
    exact o11.tells (by omega)
  · congr 1
    omega
  · rfl

/-! ## The loop over blocks -/

noncomputable abbrev Z32 : T AV := storeList .leaf 0 (List.replicate 32 (.int .u8 0))
noncomputable def M9 (b : Nat → Int) (L off len cap : Nat) (v : Nat → Int) : AM := ⟨⟨21, 43, (.node (.node (.node .leaf (some (.ptr 1 0 0)) .leaf) none .leaf) none (.node (.node .leaf (some (.slc 2 0 off len cap)) .leaf) (some (.ptr 0 0 0)) .leaf)),
   [.code (cd P (21 : Nat) [(1 : Nat), (1 : Nat), (0 : Nat), (1 : Nat), (0 : Nat), (0 : Nat)]), .inLoop (cd P (21 : Nat) [(1 : Nat), (1 : Nat), (0 : Nat), (1 : Nat), (0 : Nat), (0 : Nat)]), .inBlock 0, .code (cd P (21 : Nat) [(1 : Nat), (1 : Nat), (1 : Nat)])], [], .run, CallKind.normal, none⟩,
  [],
  ⟨(.node (.node .leaf (some (.cells (T8 v) 8 58 0 0 1 0 false .leaf)) .leaf) (some (.cells Z32 32 51 0 0 1 0 false .leaf)) (.node .leaf (some (.cells (.fn fun k => some (AV.int IntKind.u8 (b k))) L 5 0 0 1 0 false .leaf)) .leaf)), 3, GK⟩⟩

def outs (v : Nat → Int) : AV := .agg [.int .u8 (qb (v 0) 24), .int .u8 (qb (v 0) 16), .int .u8 (qb (v 0) 8), .int .u8 (qb (v 0) 0), .int .u8 (qb (v 1) 24), .int .u8 (qb (v 1) 16), .int .u8 (qb (v 1) 8), .int .u8 (qb (v 1) 0), .int .u8 (qb (v 2) 24), .int .u8 (qb (v 2) 16), .int .u8 (qb (v 2) 8), .int .u8 (qb (v 2) 0), .int .u8 (qb (v 3) 24), .int .u8 (qb (v 3) 16), .int .u8 (qb (v 3) 8), .int .u8 (qb (v 3) 0), .int .u8 (qb (v 4) 24), .int .u8 (qb (v 4) 16), .int .u8 (qb (v 4) 8), .int .u8 (qb (v 4) 0), .int .u8 (qb (v 5) 24), .int .u8 (qb (v 5) 16), .int .u8 (qb (v 5) 8), .int .u8 (qb (v 5) 0), .int .u8 (qb (v 6) 24), .int .u8 (qb (v 6) 16), .int .u8 (qb (v 6) 8), .int .u8 (qb (v 6) 0), .int .u8 (qb (v 7) 24), .int .u8 (qb (v 7) 16), .int .u8 (qb (v 7) 8), .int .u8 (qb (v 7) 0)]

def ini (k : Nat) : W32 := BitVec.ofNat 32 (([0x6a09e667, 0xbb67ae85, 0x3c6ef372, 0xa54ff53a, 0x510e527f, 0x9b05688c, 0x1f83d9ab, 0x5be0cd19] : List Nat).getD k 0)
def init (k : Nat) : Int := iw (ini k)

theorem sum0 (s : List UInt8) (b : Nat → Int) (len cap : Nat) (R : AV → Prop) (K : AM → Prop) : Obl P 21 (fun v _ => R v) 0 K [.run 15, .callh [] [0] (.slc 0 0 0 len cap) (HB GK b cap), .run 4, .can 0 [0, 1, 2] [2, 3, 4] []] (startM P 21 [.str s] GK) =
  ((PlainFn fun k => some (AV.int IntKind.u8 (b k))) ∧ (Goal P 0 23 (fun x k => x = AV.slc 0 0 0 len cap ∧ k = HB GK b cap) (startM P 23 [.str s] GK)) ∧ (PlainFn fun k => some (AV.int IntKind.u8 (b k))) ∧ K (M9 b cap 0 len cap init)) := by kernel_rfl

theorem sumA (b w y z v c : Nat → Int) (L off len cap : Nat) (R : AV → Prop) (K : AM → Prop) : Obl P 21 (fun v _ => R v) 0 K [.run 7, .know 14 true, .run 7, .op, .run 1, .callh [(2, 1, [])] [0, 1] (av c) (H17 b L w y z), .run 5, .op, .run 3, .can 0 [0, 1, 2] [2, 3, 4] []] (M9 b L off len cap v) =
  ((decide ((len : Int) > 0) = true) ∧ (0 ≤ (64 : Int) ∧ (64 : Int) ≤ (cap : Int)) ∧ (PlainFn fun k => some (AV.int IntKind.u8 (b k))) ∧ (PlainFn fun k => some (AV.int IntKind.u8 (b k))) ∧ (PlainFn fun k => some (AV.int IntKind.u32 (w k))) ∧
    (Goal P 1 24 (fun x k => x = av c ∧ k = H17 b L w y z) (startH P 24 [av v, .slc 0 0 (if cap = 0 then off else off + 0 * 1) 64 (cap - 0)] (HB GK b L))) ∧ (0 ≤ (64 : Int) ∧ (64 : Int) ≤ (len : Int)) ∧ (PlainFn fun k => some (AV.int IntKind.u8 (b k))) ∧ K (M9 b L (if cap = 64 then off else off + 64 * 1) (len - 64) (cap - 64) c)) := by kernel_rfl

theorem sumE (b v : Nat → Int) (L off len cap : Nat) (R : AV → Prop) (_K : AM → Prop) : Obl P 21 (fun v _ => R v) 0 _K [.run 7, .know 14 false, .run 1395, .done] (M9 b L off len cap v) =
  ((decide ((len : Int) > 0) = false) ∧ R (outs v)) := by kernel_rfl

/-- The state behind j blocks. -/
def states (m : Nat → UInt8) : Nat → Nat → W32
  | 0 => ini
  | j + 1 => blk (states m j) fun i => m (64 * j + i)

/-- The sum of a text. -/
def sumOf (s : List UInt8) : Nat → W32 := states (mb s) ((ml s).length / 64)

theorem init_iw : init = fun k => iw (ini k) := rfl

/-- The program's sum of a text. -/
theorem sum_ok (s : List UInt8) (hs : s.length < 2 ^ 40 - 200) : Goal P 0 21 (fun x _ => x = outs fun k => iw (sumOf s k)) (startM P 21 [.str s] GK) := by
  let m := mb s
  let b : Nat → Int := fun k => ((m k).toNat : Int)
  let N := (ml s).length / 64
  have hN : (ml s).length = 64 * N := by have := ml_blocks s; omega
  let R : AV → Prop := fun x => x = outs fun k => iw (sumOf s k)
  have main : ∀ d j off : Nat, j + d = N → (0 < d → off = 64 * j) → Goal P 0 21 (fun x _ => R x) (M9 b (64 * N) off (64 * d) (64 * d) fun k => iw (states m j k)) := by
    intro d
    induction d with
    | zero =>
      intro j off hj _
      obtain rfl : j = N := by omega
      exact Obl.goal (K := fun _ => False) mix (fun _ h => h.elim) (cast (sumE b _ _ off 0 0 R _).symm ⟨rfl, rfl⟩)
    | succ d ih =>
      intro j off hj ho
      have ho := ho (Nat.succ_pos d)
      subst ho
      refine Obl.goal (K := Goal P 0 21 fun x _ => R x) mix (fun _ h => h) (cast (sumA b (fun k => iw (tab (fun i => m (64 * j + i)) 64 k)) (fun k => iw (states m j k)) (fun k => iw (states m (j + 1) k)) (fun k => iw (states m j k)) (fun k => iw (states m (j + 1) k)) (64 * N) (64 * j) (64 * (d + 1)) (64 * (d + 1)) R _).symm
        ⟨decide_eq_true (by omega), ⟨by decide, by omega⟩, plain_int _ _, plain_int _ _, plain_int _ _, ?_, ⟨by decide, by omega⟩, plain_int _ _, ?_⟩)
      · rw [show (if 64 * (d + 1) = 0 then 64 * j else 64 * j + 0 * 1) = 64 * j by split <;> omega]
        exact after_ok (states m j) m (64 * j) _ (64 * N) (by omega)
      · rw [show 64 * (d + 1) - 64 = 64 * d by omega]
        refine ih (j + 1) _ (by omega) fun hd => ?_
        rw [if_neg (by omega)]
        omega
  refine Obl.goal (K := Goal P 0 21 fun x _ => R x) mix (fun _ h => h) (cast (sum0 s b (64 * N) (64 * N) R _).symm ⟨plain_int _ _, ?_, plain_int _ _, ?_⟩)
  · have := filled_ok GK s hs
    rwa [hN] at this
  · rw [init_iw]
    exact main N 0 0 (by omega) fun _ => rfl

end Go.Proofs.YtcdgbadnnodbeaaDoor.shaW
