/- The document's SHA-256 of any text; and that it is the program's. -/
import Derived.Test.YtledohmkjgmooaaDoorShaWf
set_option maxRecDepth 100000
namespace Go.Proofs.YtledohmkjgmooaaDoor.shaW
open Go Ev

def ob (q : Int) (j : Nat) : List UInt8 := [UInt8.ofNat (qb q j).toNat].reverse

noncomputable def M10a (G : T (T AV)) (t : List UInt8) (q : Int) : AM := ⟨⟨10, 65, (.node (.node (.node .leaf (some (.int .u64 q)) .leaf) none .leaf) (some (.str t)) (.node .leaf (some (.ptr 0 0 0)) .leaf)),
   [.code (cd P (10 : Nat) [(1 : Nat), (1 : Nat), (1 : Nat), (0 : Nat), (0 : Nat), (0 : Nat)]), .inLoop (cd P (10 : Nat) [(1 : Nat), (1 : Nat), (1 : Nat), (0 : Nat), (0 : Nat), (0 : Nat)]), .inBlock 0, .code (cd P (10 : Nat) [(1 : Nat), (1 : Nat), (1 : Nat), (1 : Nat)])], [], .run, CallKind.normal, none⟩,
  [],
  ⟨(.node .leaf (some (.cells Z32 32 22 0 0 1 0 false .leaf)) .leaf), 1, G⟩⟩
noncomputable def M10c (G : T (T AV)) (t : List UInt8) (v : Nat → Int) (i : Int) : AM := ⟨⟨10, 65, (.node (.node .leaf none (.node .leaf (some (.ptr 1 0 0)) .leaf)) (some (.str t)) (.node .leaf (some (.ptr 0 0 0)) (.node .leaf (some (.int .i64 i)) .leaf))),
   [.code (cd P (10 : Nat) [(1 : Nat), (1 : Nat), (1 : Nat), (1 : Nat), (1 : Nat), (1 : Nat), (0 : Nat), (1 : Nat), (0 : Nat), (0 : Nat)]), .inLoop (cd P (10 : Nat) [(1 : Nat), (1 : Nat), (1 : Nat), (1 : Nat), (1 : Nat), (1 : Nat), (0 : Nat), (1 : Nat), (0 : Nat), (0 : Nat)]), .inBlock 4, .code (cd P (10 : Nat) [(1 : Nat), (1 : Nat), (1 : Nat), (1 : Nat), (1 : Nat), (1 : Nat), (1 : Nat)])], [], .run, CallKind.normal, none⟩,
  [],
  ⟨(.node (.node .leaf (some (.cells (T8 v) 8 35 0 0 1 0 false .leaf)) .leaf) (some (.cells Z32 32 22 0 0 1 0 false .leaf)) .leaf), 2, G⟩⟩

theorem sumR0 (G : T (T AV)) (s : List UInt8) (q : Int) (R : AV → Prop) (K : AM → Prop) : Obl P 10 (fun v _ => R v) 0 K [.run 15, .op, .run 5, .slot 3 (.int .u64 q), .can 0 [0] [0, 2, 3] []] (startM P 10 [.str s] G) =
  ((s.length + 1 < 1099511627776) ∧ (AV.int IntKind.u64 (IntKind.u64.wrap (IntKind.u64.wrap (s.length : Int) * 8)) = AV.int IntKind.u64 q) ∧ K (M10a G (s ++ [128]) q)) := by kernel_rfl

theorem sumRA (G : T (T AV)) (t : List UInt8) (q : Int) (R : AV → Prop) (K : AM → Prop) : Obl P 10 (fun v _ => R v) 0 K [.run 8, .know 18 true, .run 5, .op, .run 4, .can 0 [0] [0, 2, 3] []] (M10a G t q) =
  ((((t.length : Int).tmod 64 != 56) = true) ∧ (t.length + 1 < 1099511627776) ∧ K (M10a G (t ++ [0]) q)) := by kernel_rfl

theorem sumRB (G : T (T AV)) (t t' : List UInt8) (q : Int) (R : AV → Prop) (K : AM → Prop) : Obl P 10 (fun v _ => R v) 0 K [.run 8, .know 18 false, .run 9, .run 19, .op, .run 9, .run 19, .op, .run 9, .run 19, .op, .run 9, .run 19, .op, .run 9, .run 19, .op, .run 9, .run 19, .op, .run 9, .run 19, .op, .run 9, .run 19, .op, .run 9, .run 21, .slot 0 (.str t'), .can 0 [0, 9] [0, 2, 5, 6] []] (M10a G t q) =
  ((((t.length : Int).tmod 64 != 56) = false) ∧ ((t).length + (ob q 56).length < 1099511627776) ∧ ((t ++ ob q 56).length + (ob q 48).length < 1099511627776) ∧ ((t ++ ob q 56 ++ ob q 48).length + (ob q 40).length < 1099511627776) ∧ ((t ++ ob q 56 ++ ob q 48 ++ ob q 40).length + (ob q 32).length < 1099511627776) ∧ ((t ++ ob q 56 ++ ob q 48 ++ ob q 40 ++ ob q 32).length + (ob q 24).length < 1099511627776) ∧ ((t ++ ob q 56 ++ ob q 48 ++ ob q 40 ++ ob q 32 ++ ob q 24).length + (ob q 16).length < 1099511627776) ∧ ((t ++ ob q 56 ++ ob q 48 ++ ob q 40 ++ ob q 32 ++ ob q 24 ++ ob q 16).length + (ob q 8).length < 1099511627776) ∧ ((t ++ ob q 56 ++ ob q 48 ++ ob q 40 ++ ob q 32 ++ ob q 24 ++ ob q 16 ++ ob q 8).length + (ob q 0).length < 1099511627776) ∧ (AV.str (t ++ ob q 56 ++ ob q 48 ++ ob q 40 ++ ob q 32 ++ ob q 24 ++ ob q 16 ++ ob q 8 ++ ob q 0) = AV.str t') ∧ K (M10c G t' init 0)) := by kernel_rfl

theorem sumRC (G : T (T AV)) (t : List UInt8) (v c : Nat → Int) (i : Int) (R : AV → Prop) (K : AM → Prop) : Obl P 10 (fun v _ => R v) 0 K [.run 8, .know 38 true, .run 10, .op, .run 1, .callv [0, 1] (av c), .run 9, .can 0 [0, 1] [0, 2, 5, 6] []] (M10c G t v i) =
  ((decide (i < (t.length : Int)) = true) ∧ ((0 ≤ IntKind.i64.wrap (i + 64) ∧ IntKind.i64.wrap (i + 64) ≤ (t.length : Int)) ∧ 0 ≤ i ∧ i ≤ ((IntKind.i64.wrap (i + 64)).toNat : Int)) ∧ (Goal P 0 18 (fun x _ => x = av c) (startM P 18 [av v, .str (List.take ((IntKind.i64.wrap (i + 64)).toNat - i.toNat) (List.drop i.toNat t))] G)) ∧ K (M10c G t c (IntKind.i64.wrap (i + 64)))) := by kernel_rfl

theorem sumRD (G : T (T AV)) (t : List UInt8) (v : Nat → Int) (i : Int) (R : AV → Prop) (_K : AM → Prop) : Obl P 10 (fun v _ => R v) 0 _K [.run 8, .know 38 false, .run 1051, .done] (M10c G t v i) =
  ((decide (i < (t.length : Int)) = false) ∧ R (outs v)) := by kernel_rfl

theorem ob_ok (n j : Nat) (h : 8 * n < 2 ^ 64) : ob (8 * n : Nat) j = [UInt8.ofNat (8 * n / 2 ^ j)] := by
  unfold ob
  rw [qb_ok n j h, Int.toNat_natCast, UInt8.ofNat_toNat]
  rfl

theorem ob_len (q : Int) (j : Nat) : (ob q j).length = 1 := rfl

theorem cond_same {b : Bool} {x y z : W32} (h : b = true → x = y) : (bif b then x else z) = bif b then y else z := by
  cases b with
  | false => rfl
  | true => exact h rfl

theorem tab_congr {f g : Nat → UInt8} (h : ∀ p, p < 64 → f p = g p) : ∀ i, i ≤ 64 → tab f i = tab g i
  | 0, _ => rfl
  | i + 1, hi => by
    have ih := tab_congr h i (by omega)
    have hw : Nat.blt i 16 = true → word f (4 * i) = word g (4 * i) := fun hb => by
      have h16 : i < 16 := Nat.le_of_ble_eq_true hb
      unfold word
      rw [h _ (by omega), h _ (by omega), h _ (by omega), h _ (by omega)]
    funext k
    rw [tab, tab, ih]
    exact congrArg (fun x => bif Nat.beq k i then x else tab g i k) (cond_same hw)

theorem blk_congr (v : Nat → W32) {f g : Nat → UInt8} (h : ∀ p, p < 64 → f p = g p) : blk v f = blk v g := by
  unfold blk
  rw [tab_congr h 64 (Nat.le_refl _)]

/-- The document's sum of a text. -/
theorem sumR_ok (G : T (T AV)) (s : List UInt8) (hs : s.length < 2 ^ 40 - 200) : Goal P 0 10 (fun x _ => x = outs fun k => iw (sumOf s k)) (startM P 10 [.str s] G) := by
  let m := mb s
  let N := (ml s).length / 64
  have hN : (ml s).length = 64 * N := by have := ml_blocks s; omega
  have hl := ml_len s
  have hz : nz s.length ≤ 63 := by unfold nz; omega
  let R : AV → Prop := fun x => x = outs fun k => iw (sumOf s k)
  have third : ∀ d j : Nat, j + d = N → Goal P 0 10 (fun x _ => R x) (M10c G (ml s) (fun k => iw (states m j k)) ((64 * j : Nat) : Int)) := by
    intro d
    induction d with
    | zero =>
      intro j hj
      obtain rfl : j = N := by omega
      exact Obl.goal (K := fun _ => False) mix (fun _ h => h.elim) (cast (sumRD G (ml s) _ _ R _).symm ⟨decide_eq_false (by omega), rfl⟩)
    | succ d ih =>
      intro j hj
      have e : IntKind.i64.wrap (((64 * j : Nat) : Int) + 64) = ((64 * (j + 1) : Nat) : Int) := by rw [IntWalk.i64_in _ (by omega)]; push_cast; omega
      refine Obl.goal (K := Goal P 0 10 fun x _ => R x) mix (fun _ h => h) (cast (sumRC G (ml s) (fun k => iw (states m j k)) (fun k => iw (states m (j + 1) k)) _ R _).symm ?_)
      rw [e, Int.toNat_natCast, Int.toNat_natCast, show 64 * (j + 1) - 64 * j = 64 by omega]
      refine ⟨decide_eq_true (by omega), ⟨⟨by omega, by omega⟩, by omega, by omega⟩, ?_, ih (j + 1) (by omega)⟩
      have := block_ok G (states m j) (List.take 64 (List.drop (64 * j) (ml s))) (by rw [List.length_take, List.length_drop]; omega)
      have e2 : blk (states m j) (fun i => (List.take 64 (List.drop (64 * j) (ml s))).getD i 0) = states m (j + 1) := by
        show _ = blk (states m j) fun i => m (64 * j + i)
        refine blk_congr _ fun p hp => ?_
        rw [List.getD_eq_getElem?_getD, List.getElem?_take_of_lt hp, List.getElem?_drop]
        show _ = (ml s).getD _ 0
        rw [List.getD_eq_getElem?_getD]
      rwa [e2] at this
  have hb : 8 * s.length < 2 ^ 64 := by omega
  have first : ∀ d k : Nat, k + d = nz s.length → Goal P 0 10 (fun x _ => R x) (M10a G (s ++ [128] ++ List.replicate k 0) (8 * s.length : Nat)) := by
    intro d
    induction d with
    | zero =>
      intro k hk
      obtain rfl : k = nz s.length := by omega
      have hlen : (s ++ [128] ++ List.replicate (nz s.length) (0 : UInt8)).length = s.length + 1 + nz s.length := by simp; omega
      refine Obl.goal (K := Goal P 0 10 fun x _ => R x) mix (fun _ h => h) (cast (sumRB G _ (ml s) _ R _).symm ?_)
      simp only [List.length_append, ob_len]
      simp only [← List.length_append, hlen]
      refine ⟨?_, by omega, by omega, by omega, by omega, by omega, by omega, by omega, by omega, ?_, third N 0 (by omega)⟩
      · rw [Int.tmod_eq_emod_of_nonneg (by omega)]
        have : ((s.length + 1 + nz s.length : Nat) : Int) % 64 = 56 := by unfold nz; omega
        rw [this]; rfl
      · simp only [ob_ok _ _ hb]
        congr 1
        unfold ml tailB
        simp only [List.append_assoc, List.cons_append, List.nil_append]
        rfl
    | succ d ih =>
      intro k hk
      have hlen : (s ++ [128] ++ List.replicate k (0 : UInt8)).length = s.length + 1 + k := by simp; omega
      refine Obl.goal (K := Goal P 0 10 fun x _ => R x) mix (fun _ h => h) (cast (sumRA G _ _ R _).symm ⟨?_, by omega, ?_⟩)
      · rw [hlen, Int.tmod_eq_emod_of_nonneg (by omega)]
        have : ((s.length + 1 + k : Nat) : Int) % 64 ≠ 56 := by unfold nz at hk; omega
        simpa using this
      · have := ih (k + 1) (by omega)
        rwa [List.replicate_succ', ← List.append_assoc] at this
  have e4 : IntKind.u64.wrap (IntKind.u64.wrap (s.length : Int) * 8) = ((8 * s.length : Nat) : Int) := by
    rw [IntWalk.u64_in (s.length : Int) (by omega), IntWalk.u64_in _ (by omega)]
    push_cast; omega
  refine Obl.goal (K := Goal P 0 10 fun x _ => R x) mix (fun _ h => h) (cast (sumR0 G s (8 * s.length : Nat) R _).symm ⟨by omega, by rw [e4], ?_⟩)
  have := first (nz s.length) 0 (by omega)
  rwa [List.replicate_zero, List.append_nil] at this

end Go.Proofs.YtledohmkjgmooaaDoor.shaW
