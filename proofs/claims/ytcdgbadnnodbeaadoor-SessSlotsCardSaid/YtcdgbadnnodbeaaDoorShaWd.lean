/- The program's SHA-256 of a block: the state behind it. -/
import Derived.Test.YtcdgbadnnodbeaaDoorShaWc
set_option maxRecDepth 100000
namespace Go.Proofs.YtcdgbadnnodbeaaDoor.shaW
open Go Ev

noncomputable abbrev H17 (b : Nat → Int) (L : Nat) (w y z : Nat → Int) : AHeap := ⟨(.node (.node (.node .leaf (some (.cells (T8 z) 8 58 0 0 1 0 false .leaf)) .leaf) (some (.cells (T8 y) 8 58 0 0 1 0 false .leaf)) .leaf) (some (.cells (.fn fun k => some (AV.int IntKind.u8 (b k))) L 5 0 0 1 0 false .leaf)) (.node (.node .leaf (some (.cells (.fn fun k => some (AV.int IntKind.u32 (w k))) 64 61 0 0 1 0 false .leaf)) .leaf) (some (.cells (T8 z) 8 58 0 0 1 0 false .leaf)) .leaf)), 5, GK⟩

theorem after0 (b : Nat → Int) (off cap L : Nat) (w a : Nat → Int) (R : AV → AHeap → Prop) (K : AM → Prop) : Obl P 24 (fun v H => R v H) 1 K [.run 15, .callh [(0, 0, [])] [0] (.agg (wl w)) (H24 GK b L w), .run 6, .told 6 (.fn fun k => some (.int .u32 (w k))) 64, .run 5, .can 1 [0, 1, 2, 3, 6] [2, 4, 5, 6, 13, 14] []] (startH P 24 [av a, .slc 0 0 off 64 cap] (HB GK b L)) =
  ((PlainFn fun k => some (AV.int IntKind.u8 (b k))) ∧ (PlainFn fun k => some (AV.int IntKind.u8 (b k))) ∧ (PlainFn fun k => some (AV.int IntKind.u32 (w k))) ∧ (PlainFn fun k => some (AV.int IntKind.u32 (w k))) ∧
    (Goal P 1 25 (fun x k => x = AV.agg (wl w) ∧ k = H24 GK b L w) (startH P 25 [.slc 0 0 off 64 cap] (HB GK b L))) ∧ Tells 64 (.fn fun k => some (.int .u32 (w k))) (storeList .leaf 0 (wl w)) ∧ (64 = 64) ∧
    (PlainFn fun k => some (AV.int IntKind.u8 (b k))) ∧ (PlainFn fun k => some (AV.int IntKind.u32 (w k))) ∧ K (M17 b L w a a 0)) := by kernel_rfl

theorem afterA (b : Nat → Int) (L : Nat) (w XX YY c : Nat → Int) (i c0 : Int) (R : AV → AHeap → Prop) (K : AM → Prop) : Obl P 24 (fun v H => R v H) 1 K [.run 5, .know 15 true, .run 7, .op, .slot 17 (.int .u32 c0), .run 7, .op, .op, .run 2, .callv [0, 1] (av c), .run 8, .can 1 [0, 1, 2, 3, 4] [2, 4, 5, 6, 13, 14] []] (M17 b L w XX YY i) =
  ((decide (i < 64) = true) ∧ ((0 ≤ i ∧ i < ((64 : Nat) : Int)) ∧ i.toNat * 1 < (wl KI).length) ∧ ((wl KI).getD (i.toNat * 1) undefA = .int .u32 c0) ∧ (0 ≤ i ∧ i < ((64 : Nat) : Int)) ∧ (pl 0 i + 1 ≤ 64) ∧
    (Goal P 0 26 (fun x _ => x = av c) (startM P 26 [av XX, .int .u32 (xa c0 (w (pl 0 i)))] GK)) ∧ (PlainFn fun k => some (AV.int IntKind.u8 (b k))) ∧ (PlainFn fun k => some (AV.int IntKind.u32 (w k))) ∧ K (M17 b L w c YY (IntKind.i64.wrap (i + 1)))) := by kernel_rfl

theorem afterE (b : Nat → Int) (L : Nat) (w XX YY : Nat → Int) (i : Int) (R : AV → AHeap → Prop) (_K : AM → Prop) : Obl P 24 (fun v H => R v H) 1 _K [.run 5, .know 15 false, .run 270, .done] (M17 b L w XX YY i) =
  ((decide (i < 64) = false) ∧ R (av fun k => xa (XX k) (YY k)) (H17 b L w YY fun k => xa (XX k) (YY k))) := by kernel_rfl

/-- The state behind a block at a place of a row of bytes. -/
theorem after_ok (v : Nat → W32) (m : Nat → UInt8) (off cap L : Nat) (hL : off + 64 ≤ L) :
    Goal P 1 24 (fun x H => x = av (fun k => iw (blk v (fun j => m (off + j)) k)) ∧ H = H17 (fun k => ((m k).toNat : Int)) L (fun k => iw (tab (fun j => m (off + j)) 64 k)) (fun k => iw (v k)) fun k => iw (blk v (fun j => m (off + j)) k)) (startH P 24 [av fun k => iw (v k), .slc 0 0 off 64 cap] (HB GK (fun k => ((m k).toNat : Int)) L)) := by
  let mo : Nat → UInt8 := fun j => m (off + j)
  let b : Nat → Int := fun k => ((m k).toNat : Int)
  let w : Nat → W32 := tab mo 64
  let R : AV → AHeap → Prop := fun x H => x = av (fun k => iw (blk v mo k)) ∧ H = H17 b L (fun k => iw (w k)) (fun k => iw (v k)) fun k => iw (blk v mo k)
  have main : ∀ d i : Nat, i + d = 64 → Goal P 1 24 R (M17 b L (fun k => iw (w k)) (fun k => iw (rnds w v i k)) (fun k => iw (v k)) i) := by
    intro d
    induction d with
    | zero =>
      intro i hi
      obtain rfl : i = 64 := by omega
      refine Obl.goal (K := fun _ => False) mix (fun _ h => h.elim) (cast (afterE b L _ _ _ 64 R _).symm ⟨rfl, ?_⟩)
      have e : (fun k => xa (iw (rnds w v 64 k)) (iw (v k))) = fun k => iw (blk v mo k) := by
        funext k
        rw [xa_iw]
        rfl
      rw [e]
      exact ⟨rfl, rfl⟩
    | succ d ih =>
      intro i hi
      have hn : IntKind.i64.wrap ((i : Int) + 1) = ((i + 1 : Nat) : Int) := by rw [IntWalk.i64_in _ (by omega)]; rfl
      have hpi : pl 0 (i : Int) = i := by unfold pl; omega
      refine Obl.goal (K := Goal P 1 24 R) mix (fun _ h => h) (cast (afterA b L (fun k => iw (w k)) (fun k => iw (rnds w v i k)) (fun k => iw (v k)) (fun k => iw (rnds w v (i + 1) k)) i (iw (kk i)) R _).symm
        ⟨decide_eq_true (by omega), ⟨by omega, by rw [wl_len]; omega⟩, ?_, by omega, by rw [hpi]; omega, ?_, plain_int _ _, plain_int _ _, by rw [hn]; exact ih (i + 1) (by omega)⟩)
      · rw [show (i : Int).toNat * 1 = i by omega, List.getD_eq_getElem?_getD, wl_get _ _ (by omega)]
        rfl
      · rw [hpi, xa_iw]
        exact round_ok GK (rnds w v i) (kk i + w i)
  exact Obl.goal (K := Goal P 1 24 R) mix (fun _ h => h) (cast (after0 b off cap L (fun k => iw (w k)) (fun k => iw (v k)) R _).symm ⟨plain_int _ _, plain_int _ _, plain_int _ _, plain_int _ _, words_ok GK m off cap L hL, tells_wl _, rfl, plain_int _ _, plain_int _ _, main 64 0 (by omega)⟩)

end Go.Proofs.YtcdgbadnnodbeaaDoor.shaW
