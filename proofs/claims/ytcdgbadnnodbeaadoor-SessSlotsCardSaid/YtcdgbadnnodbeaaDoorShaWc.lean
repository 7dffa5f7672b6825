/- The program's SHA-256 of a block: its words, and all its rounds, head to head of the loops. -/
import Derived.Test.YtcdgbadnnodbeaaDoorShaWb
set_option maxRecDepth 100000
namespace Go.Proofs.YtcdgbadnnodbeaaDoor.shaW
open Go Ev

/-! ## The words -/

def is0 (x : Int) : Int := xx (xx (xo (xl x 25) (xr x 7)) (xo (xl x 14) (xr x 18))) (xr x 3)
def is1 (x : Int) : Int := xx (xx (xo (xl x 15) (xr x 17)) (xo (xl x 13) (xr x 19))) (xr x 10)
def iword (a b c d : Int) : Int := xo (xo (xo (xl (IntKind.u32.wrap a) 24) (xl (IntKind.u32.wrap b) 16)) (xl (IntKind.u32.wrap c) 8)) (IntKind.u32.wrap d)
def inext (a b c d : Int) : Int := xa (xa (xa (is1 a) b) (is0 c)) d
def pl (off : Nat) (i : Int) : Nat := off + i.toNat * 1
def i4 (i : Int) : Int := IntKind.i64.wrap (4 * i)
def i4p (i j : Int) : Int := IntKind.i64.wrap (IntKind.i64.wrap (4 * i) + j)
def im (i j : Int) : Int := IntKind.i64.wrap (i - j)

theorem words0 (G : T (T AV)) (b : Nat → Int) (off len cap L : Nat) (R : AV → AHeap → Prop) (K : AM → Prop) : Obl P 25 (fun v H => R v H) 1 K [.run 15, .told 1 .leaf 64, .told 2 (.fn fun _ => some (.int .u32 0)) 64, .can 1 [0, 1, 2] [0, 2, 3, 11] []] (startH P 25 [.slc 0 0 off len cap] (HB G b L)) =
  (Tells 64 .leaf (storeList .leaf 0 (List.replicate 64 (.int .u32 0))) ∧ (64 = 64) ∧ Tells 64 (.fn fun _ => some (.int .u32 0)) (storeList .leaf 0 (List.replicate 64 (.int .u32 0))) ∧ (64 = 64) ∧ (PlainFn fun k => some (AV.int IntKind.u8 (b k))) ∧ (PlainFn fun _ => some (AV.int IntKind.u32 0)) ∧ K (M24 G b L off len cap (fun _ => 0) 0)) := by kernel_rfl

theorem wordsA (G : T (T AV)) (b : Nat → Int) (off len cap L : Nat) (w w' : Nat → Int) (i : Int) (R : AV → AHeap → Prop) (K : AM → Prop) : Obl P 25 (fun v H => R v H) 1 K [.run 5, .know 12 true, .run 15, .know 15 true, .run 7, .op, .op, .run 6, .op, .op, .run 7, .op, .op, .run 7, .op, .op, .run 2, .op, .opw false, .run 7, .told 2 (.fn fun k => some (.int .u32 (w' k))) 64, .can 1 [0, 1, 2] [0, 2, 3, 11] []] (M24 G b L off len cap w i) =
  ((decide (i < 64) = true) ∧ (decide (i < 16) = true) ∧ (0 ≤ i4 i ∧ i4 i < (len : Int)) ∧ (pl off (i4 i) + 1 ≤ L) ∧ (0 ≤ i4p i 1 ∧ i4p i 1 < (len : Int)) ∧ (pl off (i4p i 1) + 1 ≤ L) ∧ (0 ≤ i4p i 2 ∧ i4p i 2 < (len : Int)) ∧ (pl off (i4p i 2) + 1 ≤ L) ∧ (0 ≤ i4p i 3 ∧ i4p i 3 < (len : Int)) ∧ (pl off (i4p i 3) + 1 ≤ L) ∧
    (0 ≤ i ∧ i < ((64 : Nat) : Int)) ∧ (pl 0 i + 1 ≤ 64 ∧ 0 ≤ pl 0 i) ∧
    Tells 64 (.fn fun k => some (.int .u32 (w' k))) (.fn fun k => bif Nat.beq k (pl 0 i) then some (.int .u32 (iword (b (pl off (i4 i))) (b (pl off (i4p i 1))) (b (pl off (i4p i 2))) (b (pl off (i4p i 3))))) else T.get (.fn fun k => some (.int .u32 (w k))) k) ∧ (64 = 64) ∧
    (PlainFn fun k => some (AV.int IntKind.u8 (b k))) ∧ (PlainFn fun k => some (AV.int IntKind.u32 (w' k))) ∧ K (M24 G b L off len cap w' (IntKind.i64.wrap (i + 1)))) := by kernel_rfl

theorem wordsB (G : T (T AV)) (b : Nat → Int) (off len cap L : Nat) (w w' : Nat → Int) (i : Int) (R : AV → AHeap → Prop) (K : AM → Prop) : Obl P 25 (fun v H => R v H) 1 K [.run 5, .know 12 true, .run 15, .know 15 false, .run 6, .op, .op, .run 2, .op, .op, .step, .run 220, .op, .op, .run 5, .op, .op, .run 1, .op, .opw false, .run 7, .told 2 (.fn fun k => some (.int .u32 (w' k))) 64, .can 1 [0, 1, 2] [0, 2, 3, 11] []] (M24 G b L off len cap w i) =
  ((decide (i < 64) = true) ∧ (decide (i < 16) = false) ∧ (0 ≤ im i 15 ∧ im i 15 < ((64 : Nat) : Int)) ∧ (pl 0 (im i 15) + 1 ≤ 64) ∧ (0 ≤ im i 2 ∧ im i 2 < ((64 : Nat) : Int)) ∧ (pl 0 (im i 2) + 1 ≤ 64) ∧ (pl 0 (im i 2) + 1 ≤ 64) ∧ (AV.int IntKind.u32 (w (pl 0 (im i 2))) = AV.int IntKind.u32 (w (pl 0 (im i 2)))) ∧ (some (AV.int IntKind.i64 (im i 2)) = some (AV.int IntKind.i64 (im i 2))) ∧
    (0 ≤ im i 7 ∧ im i 7 < ((64 : Nat) : Int)) ∧ (pl 0 (im i 7) + 1 ≤ 64) ∧ (0 ≤ im i 16 ∧ im i 16 < ((64 : Nat) : Int)) ∧ (pl 0 (im i 16) + 1 ≤ 64) ∧ (0 ≤ i ∧ i < ((64 : Nat) : Int)) ∧ (pl 0 i + 1 ≤ 64 ∧ 0 ≤ pl 0 i) ∧
    Tells 64 (.fn fun k => some (.int .u32 (w' k))) (.fn fun k => bif Nat.beq k (pl 0 i) then some (.int .u32 (inext (w (pl 0 (im i 2))) (w (pl 0 (im i 7))) (w (pl 0 (im i 15))) (w (pl 0 (im i 16))))) else T.get (.fn fun k => some (.int .u32 (w k))) k) ∧ (64 = 64) ∧
    (PlainFn fun k => some (AV.int IntKind.u8 (b k))) ∧ (PlainFn fun k => some (AV.int IntKind.u32 (w' k))) ∧ K (M24 G b L off len cap w' (IntKind.i64.wrap (i + 1)))) := by kernel_rfl

theorem wordsE (G : T (T AV)) (b : Nat → Int) (off len cap L : Nat) (w : Nat → Int) (i : Int) (R : AV → AHeap → Prop) (_K : AM → Prop) : Obl P 25 (fun v H => R v H) 1 _K [.run 5, .know 12 false, .run 7, .told 1 (.fn fun k => some (.int .u32 (w k))) 64, .run 1, .done] (M24 G b L off len cap w i) =
  ((decide (i < 64) = false) ∧ Tells 64 (.fn fun k => some (.int .u32 (w k))) (storeList .leaf 0 (wl w)) ∧ (64 = 64) ∧ R (.agg (wl w)) (H24 G b L w)) := by kernel_rfl

theorem plain_int (k : IntKind) (f : Nat → Int) : PlainFn fun j => some (AV.int k (f j)) := fun j v e => by cases e; rfl

theorem tells_leaf (n : Nat) (c : T AV) : Tells n .leaf c := fun k v _ e => by cases e

theorem tells_zeros : Tells 64 (.fn fun _ => some (.int .u32 0)) (storeList .leaf 0 (List.replicate 64 (.int .u32 0))) := fun k v hk e => by
  rw [storeList_get, if_pos ⟨Nat.zero_le _, by simpa using hk⟩, Nat.sub_zero]
  rw [List.getElem?_replicate, if_pos hk]
  exact e

theorem wl_get (w : Nat → Int) (k : Nat) (hk : k < 64) : (wl w)[k]? = some (.int .u32 (w k)) := by
  unfold wl
  rw [List.getElem?_map, List.getElem?_range hk]
  rfl

theorem wl_len (w : Nat → Int) : (wl w).length = 64 := by unfold wl; rw [List.length_map, List.length_range]

theorem tells_wl (w : Nat → Int) : Tells 64 (.fn fun k => some (.int .u32 (w k))) (storeList .leaf 0 (wl w)) := fun k v hk e => by
  rw [storeList_get, if_pos ⟨Nat.zero_le _, by rw [wl_len]; omega⟩, Nat.sub_zero, wl_get w k hk]
  exact e

theorem tells_put (n p : Nat) (x : Int) (w w' : Nat → Int) (h : ∀ k, w' k = if k = p then x else w k) : Tells n (.fn fun k => some (.int .u32 (w' k))) (.fn fun k => bif Nat.beq k p then some (.int .u32 x) else T.get (.fn fun k => some (.int .u32 (w k))) k) := fun k v _ e => by
  change some (AV.int .u32 (w' k)) = some v at e
  show (bif Nat.beq k p then some (AV.int .u32 x) else some (AV.int .u32 (w k))) = some v
  rw [← e, h k]
  by_cases hk : k = p
  · rw [hk, Nat.beq_refl, if_pos rfl]; rfl
  · rw [if_neg hk]
    cases hb : Nat.beq k p with
    | true => exact absurd (Nat.eq_of_beq_eq_true hb) hk
    | false => rfl

theorem iword_ok (a b c d : UInt8) : iword a.toNat b.toNat c.toNat d.toNat = iw (bw a <<< 24 ||| bw b <<< 16 ||| bw c <<< 8 ||| bw d) := by
  simp only [iword, bw_iw, xl_iw, xo_iw]

theorem inext_ok (a b c d : W32) : inext (iw a) (iw b) (iw c) (iw d) = iw (s1 a + b + s0 c + d) := by
  simp only [inext, is0, is1, xl_iw, xr_iw, xo_iw, xx_iw, xa_iw, s0, s1, rr]

/-- The words of a block at a place of a row of bytes. -/
theorem words_ok (G : T (T AV)) (m : Nat → UInt8) (off cap L : Nat) (hL : off + 64 ≤ L) :
    Goal P 1 25 (fun v H => v = .agg (wl fun k => iw (tab (fun j => m (off + j)) 64 k)) ∧ H = H24 G (fun k => ((m k).toNat : Int)) L fun k => iw (tab (fun j => m (off + j)) 64 k)) (startH P 25 [.slc 0 0 off 64 cap] (HB G (fun k => ((m k).toNat : Int)) L)) := by
  let mo : Nat → UInt8 := fun j => m (off + j)
  let b : Nat → Int := fun k => ((m k).toNat : Int)
  let R : AV → AHeap → Prop := fun v H => v = .agg (wl fun k => iw (tab mo 64 k)) ∧ H = H24 G b L fun k => iw (tab mo 64 k)
  have main : ∀ d i : Nat, i + d = 64 → Goal P 1 25 R (M24 G b L off 64 cap (fun k => iw (tab mo i k)) i) := by
    intro d
    induction d with
    | zero =>
      intro i hi
      obtain rfl : i = 64 := by omega
      exact Obl.goal (K := fun _ => False) mix (fun _ h => h.elim) (cast (wordsE G b off 64 cap L _ 64 R _).symm ⟨rfl, tells_wl _, rfl, rfl, rfl⟩)
    | succ d ih =>
      intro i hi
      have hn : IntKind.i64.wrap ((i : Int) + 1) = ((i + 1 : Nat) : Int) := by rw [IntWalk.i64_in _ (by omega)]; rfl
      have hpi : pl 0 (i : Int) = i := by unfold pl; omega
      by_cases h16 : i < 16
      · have e4 : i4 i = 4 * (i : Int) := IntWalk.i64_in _ (by omega)
        have e4p : ∀ j : Int, 0 ≤ j → j ≤ 3 → i4p i j = 4 * (i : Int) + j := fun j h1 h2 => by
          unfold i4p
          rw [show IntKind.i64.wrap (4 * (i : Int)) = 4 * (i : Int) from e4, IntWalk.i64_in _ (by omega)]
        have q0 : pl off (i4 i) = off + 4 * i := by unfold pl; rw [e4]; omega
        have q1 : pl off (i4p i 1) = off + (4 * i + 1) := by unfold pl; rw [e4p 1 (by decide) (by decide)]; omega
        have q2 : pl off (i4p i 2) = off + (4 * i + 2) := by unfold pl; rw [e4p 2 (by decide) (by decide)]; omega
        have q3 : pl off (i4p i 3) = off + (4 * i + 3) := by unfold pl; rw [e4p 3 (by decide) (by decide)]; omega
        refine Obl.goal (K := Goal P 1 25 R) mix (fun _ h => h) (cast (wordsA G b off 64 cap L (fun k => iw (tab mo i k)) (fun k => iw (tab mo (i + 1) k)) i R _).symm
          ⟨decide_eq_true (by omega), decide_eq_true (by omega), by rw [e4]; omega, by rw [q0]; omega, by rw [e4p 1 (by decide) (by decide)]; omega, by rw [q1]; omega, by rw [e4p 2 (by decide) (by decide)]; omega, by rw [q2]; omega, by rw [e4p 3 (by decide) (by decide)]; omega, by rw [q3]; omega,
            by omega, by rw [hpi]; omega, ?_, rfl, plain_int _ _, plain_int _ _, by rw [hn]; exact ih (i + 1) (by omega)⟩)
        rw [hpi, q0, q1, q2, q3]
        refine tells_put _ _ _ _ _ fun k => ?_
        show iw (bif Nat.beq k i then (bif Nat.blt i 16 then word mo (4 * i) else _) else tab mo i k) = _
        by_cases hk : k = i
        · rw [hk, Nat.beq_refl, if_pos rfl, show Nat.blt i 16 = true from Nat.ble_eq_true_of_le h16]
          exact (iword_ok _ _ _ _).symm
        · rw [if_neg hk, show Nat.beq k i = false from by cases hb : Nat.beq k i with | true => exact absurd (Nat.eq_of_beq_eq_true hb) hk | false => rfl]
          rfl
      · have em : ∀ j : Nat, j ≤ 16 → im i j = ((i - j : Nat) : Int) := fun j h => by
          unfold im
          rw [IntWalk.i64_in _ (by omega)]; omega
        have e2 : im i 2 = ((i - 2 : Nat) : Int) := em 2 (by omega)
        have e7 : im i 7 = ((i - 7 : Nat) : Int) := em 7 (by omega)
        have e15 : im i 15 = ((i - 15 : Nat) : Int) := em 15 (by omega)
        have e16 : im i 16 = ((i - 16 : Nat) : Int) := em 16 (by omega)
        have pm : ∀ j : Nat, pl 0 (j : Int) = j := fun j => by unfold pl; omega
        refine Obl.goal (K := Goal P 1 25 R) mix (fun _ h => h) (cast (wordsB G b off 64 cap L (fun k => iw (tab mo i k)) (fun k => iw (tab mo (i + 1) k)) i R _).symm ?_)
        rw [e2, e7, e15, e16, pm, pm, pm, pm, pm, hn]
        refine ⟨decide_eq_true (by omega), decide_eq_false (by omega), by omega, by omega, by omega, by omega, by omega, rfl, rfl, by omega, by omega, by omega, by omega, by omega, by omega, ?_, rfl, plain_int _ _, plain_int _ _, ih (i + 1) (by omega)⟩
        refine tells_put _ _ _ _ _ fun k => ?_
        show iw (bif Nat.beq k i then (bif Nat.blt i 16 then word mo (4 * i) else _) else tab mo i k) = _
        by_cases hk : k = i
        · rw [hk, Nat.beq_refl, if_pos rfl, show Nat.blt i 16 = false from by cases hb : Nat.blt i 16 with | true => exact absurd (Nat.le_of_ble_eq_true hb) h16 | false => rfl]
          exact (inext_ok _ _ _ _).symm
        · rw [if_neg hk, show Nat.beq k i = false from by cases hb : Nat.beq k i with | true => exact absurd (Nat.eq_of_beq_eq_true hb) hk | false => rfl]
          rfl
  exact Obl.goal (K := Goal P 1 25 R) mix (fun _ h => h) (cast (words0 G b off 64 cap L R _).symm ⟨tells_leaf _ _, rfl, tells_zeros, rfl, plain_int _ _, plain_int _ (fun _ => 0), main 64 0 (by omega)⟩)

end Go.Proofs.YtcdgbadnnodbeaaDoor.shaW
