/- What the program answers behind the last piece: no segments, too many, one, or two to eight that are joined. -/
import Derived.Test.YtdpgaemeapeilaaPaD
import Derived.Test.YtdpgaemeapeilaaPaJ
set_option maxRecDepth 100000
set_option linter.unusedVariables false
set_option linter.unusedSimpArgs false
namespace Go.Proofs.Ytdpgaemeapeilaa.pth
open Go Ev

theorem x1 (R : AV → Prop) (g : Nat → List UInt8) (z : Nat) (G : T (T AV)) (_K : AM → Prop) : Obl P 6 (fun v _ => R v) 0 _K [.run 42, .op, .run 26, .done] ((Xb g 1 z G)) = ((1 ≤ z) ∧ (R (.tup [.str (g (0)), .int .i64 0]))) := by kernel_rfl

theorem xey (R : AV → Prop) (g : Nat → List UInt8) (n z : Nat) (G : T (T AV)) (_K : AM → Prop) : Obl P 6 (fun v _ => R v) 0 _K [.run 4, .know 16 true, .run 41, .done] ((Xb g n z G)) = ((decide ((↑n : Int) < (1 : Int)) = true) ∧ (R (.tup [.str [], .int .i64 6]))) := by kernel_rfl

theorem xeny (R : AV → Prop) (g : Nat → List UInt8) (n z : Nat) (G : T (T AV)) (_K : AM → Prop) : Obl P 6 (fun v _ => R v) 0 _K [.run 4, .know 16 false, .run 5, .know 20 true, .run 36, .done] ((Xb g n z G)) = ((decide ((↑n : Int) < (1 : Int)) = false) ∧ (decide ((↑n : Int) > (8 : Int)) = true) ∧ (R (.tup [.str [], .int .i64 6]))) := by kernel_rfl

theorem hc5 : P.cellsOf 5 = 1 := by kernel_rfl

theorem j2_ok {g : Nat → List UInt8} {z : Nat} {G : T (T AV)} {x0 x1 : List UInt8} (hg : ∀ k x, ([x0, x1] : List (List UInt8))[k]? = some x → g k = x) (hz : 2 ≤ z)
    (b0 : 1 ≤ x0.length ∧ x0.length ≤ 16) (b1 : 1 ≤ x1.length ∧ x1.length ≤ 16) : Goal P 0 6 (fun v _ => v = tup (x0 ++ [47] ++ x1, 0)) (Xb g 2 z G) := by
  have hm : (x0.length + 1 + x1.length) - 1 + 1 = x0.length + 1 + x1.length := by omega
  refine Obl.goal (K := fun _ => False) mix (fun _ h => h.elim) (cast (j2 (fun v => v = tup (x0 ++ [47] ++ x1, 0)) x0 x1 g z ((x0.length + 1 + x1.length) - 1) G _).symm ?_)
  simp (disch := omega) only [wi, Int.ofNat_eq_natCast, hm]
  and_intros
  all_goals first
    | exact rowL_tells hg
    | omega
    | exact congrArg (fun n => AV.slg 6 0 0 n 0) (by omega)
    | rfl
    | (exact decide_eq_false (by omega))
    | (exact decide_eq_true (by omega))
    | exact hc5
    | exact congrArg (fun n => AV.slg 6 0 0 n 0) (by omega)
    | exact row_str (by simp <;> omega) (has_more (v := x1) (has_more (v := [47]) (has_more (u := []) (v := x0) has_none (by simp) (by simp)) (by simp <;> omega) (by simp <;> omega)) (by simp <;> omega) (by simp <;> omega))
    | (simp; omega)
    | (simp; done)

theorem j3_ok {g : Nat → List UInt8} {z : Nat} {G : T (T AV)} {x0 x1 x2 : List UInt8} (hg : ∀ k x, ([x0, x1, x2] : List (List UInt8))[k]? = some x → g k = x) (hz : 3 ≤ z)
    (b0 : 1 ≤ x0.length ∧ x0.length ≤ 16) (b1 : 1 ≤ x1.length ∧ x1.length ≤ 16) (b2 : 1 ≤ x2.length ∧ x2.length ≤ 16) : Goal P 0 6 (fun v _ => v = tup (x0 ++ [47] ++ x1 ++ [47] ++ x2, 0)) (Xb g 3 z G) := by
  have hm : (x0.length + 1 + x1.length + 1 + x2.length) - 1 + 1 = x0.length + 1 + x1.length + 1 + x2.length := by omega
  refine Obl.goal (K := fun _ => False) mix (fun _ h => h.elim) (cast (j3 (fun v => v = tup (x0 ++ [47] ++ x1 ++ [47] ++ x2, 0)) x0 x1 x2 g z ((x0.length + 1 + x1.length + 1 + x2.length) - 1) G _).symm ?_)
  simp (disch := omega) only [wi, Int.ofNat_eq_natCast, hm]
  and_intros
  all_goals first
    | exact rowL_tells hg
    | omega
    | exact congrArg (fun n => AV.slg 6 0 0 n 0) (by omega)
    | rfl
    | (exact decide_eq_false (by omega))
    | (exact decide_eq_true (by omega))
    | exact hc5
    | exact congrArg (fun n => AV.slg 6 0 0 n 0) (by omega)
    | exact row_str (by simp <;> omega) (has_more (v := x2) (has_more (v := [47]) (has_more (v := x1) (has_more (v := [47]) (has_more (u := []) (v := x0) has_none (by simp) (by simp)) (by simp <;> omega) (by simp <;> omega)) (by simp <;> omega) (by simp <;> omega)) (by simp <;> omega) (by simp <;> omega)) (by simp <;> omega) (by simp <;> omega))
    | (simp; omega)
    | (simp; done)

theorem j4_ok {g : Nat → List UInt8} {z : Nat} {G : T (T AV)} {x0 x1 x2 x3 : List UInt8} (hg : ∀ k x, ([x0, x1, x2, x3] : List (List UInt8))[k]? = some x → g k = x) (hz : 4 ≤ z)
    (b0 : 1 ≤ x0.length ∧ x0.length ≤ 16) (b1 : 1 ≤ x1.length ∧ x1.length ≤ 16) (b2 : 1 ≤ x2.length ∧ x2.length ≤ 16) (b3 : 1 ≤ x3.length ∧ x3.length ≤ 16) : Goal P 0 6 (fun v _ => v = tup (x0 ++ [47] ++ x1 ++ [47] ++ x2 ++ [47] ++ x3, 0)) (Xb g 4 z G) := by
  have hm : (x0.length + 1 + x1.length + 1 + x2.length + 1 + x3.length) - 1 + 1 = x0.length + 1 + x1.length + 1 + x2.length + 1 + x3.length := by omega
  refine Obl.goal (K := fun _ => False) mix (fun _ h => h.elim) (cast (j4 (fun v => v = tup (x0 ++ [47] ++ x1 ++ [47] ++ x2 ++ [47] ++ x3, 0)) x0 x1 x2 x3 g z ((x0.length + 1 + x1.length + 1 + x2.length + 1 + x3.length) - 1) G _).symm ?_)
  simp (disch := omega) only [wi, Int.ofNat_eq_natCast, hm]
  and_intros
  all_goals first
    | exact rowL_tells hg
    | omega
    | exact congrArg (fun n => AV.slg 6 0 0 n 0) (by omega)
    | rfl
    | (exact decide_eq_false (by omega))
    | (exact decide_eq_true (by omega))
    | exact hc5
    | exact congrArg (fun n => AV.slg 6 0 0 n 0) (by omega)
    | exact row_str (by simp <;> omega) (has_more (v := x3) (has_more (v := [47]) (has_more (v := x2) (has_more (v := [47]) (has_more (v := x1) (has_more (v := [47]) (has_more (u := []) (v := x0) has_none (by simp) (by simp)) (by simp <;> omega) (by simp <;> omega)) (by simp <;> omega) (by simp <;> omega)) (by simp <;> omega) (by simp <;> omega)) (by simp <;> omega) (by simp <;> omega)) (by simp <;> omega) (by simp <;> omega)) (by simp <;> omega) (by simp <;> omega))
    | (simp; omega)
    | (simp; done)

theorem j5_ok {g : Nat → List UInt8} {z : Nat} {G : T (T AV)} {x0 x1 x2 x3 x4 : List UInt8} (hg : ∀ k x, ([x0, x1, x2, x3, x4] : List (List UInt8))[k]? = some x → g k = x) (hz : 5 ≤ z)
    (b0 : 1 ≤ x0.length ∧ x0.length ≤ 16) (b1 : 1 ≤ x1.length ∧ x1.length ≤ 16) (b2 : 1 ≤ x2.length ∧ x2.length ≤ 16) (b3 : 1 ≤ x3.length ∧ x3.length ≤ 16) (b4 : 1 ≤ x4.length ∧ x4.length ≤ 16) : Goal P 0 6 (fun v _ => v = tup (x0 ++ [47] ++ x1 ++ [47] ++ x2 ++ [47] ++ x3 ++ [47] ++ x4, 0)) (Xb g 5 z G) := by
  have hm : (x0.length + 1 + x1.length + 1 + x2.length + 1 + x3.length + 1 + x4.length) - 1 + 1 = x0.length + 1 + x1.length + 1 + x2.length + 1 + x3.length + 1 + x4.length := by omega
  refine Obl.goal (K := fun _ => False) mix (fun _ h => h.elim) (cast (j5 (fun v => v = tup (x0 ++ [47] ++ x1 ++ [47] ++ x2 ++ [47] ++ x3 ++ [47] ++ x4, 0)) x0 x1 x2 x3 x4 g z ((x0.length + 1 + x1.length + 1 + x2.length + 1 + x3.length + 1 + x4.length) - 1) G _).symm ?_)
  simp (disch := omega) only [wi, Int.ofNat_eq_natCast, hm]
  and_intros
  all_goals first
    | exact rowL_tells hg
    | omega
    | exact congrArg (fun n => AV.slg 6 0 0 n 0) (by omega)
    | rfl
    | (exact decide_eq_false (by omega))
    | (exact decide_eq_true (by omega))
    | exact hc5
    | exact congrArg (fun n => AV.slg 6 0 0 n 0) (by omega)
    | exact row_str (by simp <;> omega) (has_more (v := x4) (has_more (v := [47]) (has_more (v := x3) (has_more (v := [47]) (has_more (v := x2) (has_more (v := [47]) (has_more (v := x1) (has_more (v := [47]) (has_more (u := []) (v := x0) has_none (by simp) (by simp)) (by simp <;> omega) (by simp <;> omega)) (by simp <;> omega) (by simp <;> omega)) (by simp <;> omega) (by simp <;> omega)) (by simp <;> omega) (by simp <;> omega)) (by simp <;> omega) (by simp <;> omega)) (by simp <;> omega) (by simp <;> omega)) (by simp <;> omega) (by simp <;> omega)) (by simp <;> omega) (by simp <;> omega))
    | (simp; omega)
    | (simp; done)

theorem j6_ok {g : Nat → List UInt8} {z : Nat} {G : T (T AV)} {x0 x1 x2 x3 x4 x5 : List UInt8} (hg : ∀ k x, ([x0, x1, x2, x3, x4, x5] : List (List UInt8))[k]? = some x → g k = x) (hz : 6 ≤ z)
    (b0 : 1 ≤ x0.length ∧ x0.length ≤ 16) (b1 : 1 ≤ x1.length ∧ x1.length ≤ 16) (b2 : 1 ≤ x2.length ∧ x2.length ≤ 16) (b3 : 1 ≤ x3.length ∧ x3.length ≤ 16) (b4 : 1 ≤ x4.length ∧ x4.length ≤ 16) (b5 : 1 ≤ x5.length ∧ x5.length ≤ 16) : Goal P 0 6 (fun v _ => v = tup (x0 ++ [47] ++ x1 ++ [47] ++ x2 ++ [47] ++ x3 ++ [47] ++ x4 ++ [47] ++ x5, 0)) (Xb g 6 z G) := by
  have hm : (x0.length + 1 + x1.length + 1 + x2.length + 1 + x3.length + 1 + x4.length + 1 + x5.length) - 1 + 1 = x0.length + 1 + x1.length + 1 + x2.length + 1 + x3.length + 1 + x4.length + 1 + x5.length := by omega
  refine Obl.goal (K := fun _ => False) mix (fun _ h => h.elim) (cast (j6 (fun v => v = tup (x0 ++ [47] ++ x1 ++ [47] ++ x2 ++ [47] ++ x3 ++ [47] ++ x4 ++ [47] ++ x5, 0)) x0 x1 x2 x3 x4 x5 g z ((x0.length + 1 + x1.length + 1 + x2.length + 1 + x3.length + 1 + x4.length + 1 + x5.length) - 1) G _).symm ?_)
  simp (disch := omega) only [wi, Int.ofNat_eq_natCast, hm]
  and_intros
  all_goals first
    | exact rowL_tells hg
    | omega
    | exact congrArg (fun n => AV.slg 6 0 0 n 0) (by omega)
    | rfl
    | (exact decide_eq_false (by omega))
    | (exact decide_eq_true (by omega))
    | exact hc5
    | exact congrArg (fun n => AV.slg 6 0 0 n 0) (by omega)
    | exact row_str (by simp <;> omega) (has_more (v := x5) (has_more (v := [47]) (has_more (v := x4) (has_more (v := [47]) (has_more (v := x3) (has_more (v := [47]) (has_more (v := x2) (has_more (v := [47]) (has_more (v := x1) (has_more (v := [47]) (has_more (u := []) (v := x0) has_none (by simp) (by simp)) (by simp <;> omega) (by simp <;> omega)) (by simp <;> omega) (by simp <;> omega)) (by simp <;> omega) (by simp <;> omega)) (by simp <;> omega) (by simp <;> omega)) (by simp <;> omega) (by simp <;> omega)) (by simp <;> omega) (by simp <;> omega)) (by simp <;> omega) (by simp <;> omega)) (by simp <;> omega) (by simp <;> omega)) (by simp <;> omega) (by simp <;> omega)) (by simp <;> omega) (by simp <;> omega))
    | (simp; omega)
    | (simp; done)

theorem j7_ok {g : Nat → List UInt8} {z : Nat} {G : T (T AV)} {x0 x1 x2 x3 x4 x5 x6 : List UInt8} (hg : ∀ k x, ([x0, x1, x2, x3, x4, x5, x6] : List (List UInt8))[k]? = some x → g k = x) (hz : 7 ≤ z)
    (b0 : 1 ≤ x0.length ∧ x0.length ≤ 16) (b1 : 1 ≤ x1.length ∧ x1.length ≤ 16) (b2 : 1 ≤ x2.length ∧ x2.length ≤ 16) (b3 : 1 ≤ x3.length ∧ x3.length ≤ 16) (b4 : 1 ≤ x4.length ∧ x4.length ≤ 16) (b5 : 1 ≤ x5.length ∧ x5.length ≤ 16) (b6 : 1 ≤ x6.length ∧ x6.length ≤ 16) : Goal P 0 6 (fun v _ => v = tup (x0 ++ [47] ++ x1 ++ [47] ++ x2 ++ [47] ++ x3 ++ [47] ++ x4 ++ [47] ++ x5 ++ [47] ++ x6, 0)) (Xb g 7 z G) := by
  have hm : (x0.length + 1 + x1.length + 1 + x2.length + 1 + x3.length + 1 + x4.length + 1 + x5.length + 1 + x6.length) - 1 + 1 = x0.length + 1 + x1.length + 1 + x2.length + 1 + x3.length + 1 + x4.length + 1 + x5.length + 1 + x6.length := by omega
  refine Obl.goal (K := fun _ => False) mix (fun _ h => h.elim) (cast (j7 (fun v => v = tup (x0 ++ [47] ++ x1 ++ [47] ++ x2 ++ [47] ++ x3 ++ [47] ++ x4 ++ [47] ++ x5 ++ [47] ++ x6, 0)) x0 x1 x2 x3 x4 x5 x6 g z ((x0.length + 1 + x1.length + 1 + x2.length + 1 + x3.length + 1 + x4.length + 1 + x5.length + 1 + x6.length) - 1) G _).symm ?_)
  simp (disch := omega) only [wi, Int.ofNat_eq_natCast, hm]
  and_intros
  all_goals first
    | exact rowL_tells hg
    | omega
    | exact congrArg (fun n => AV.slg 6 0 0 n 0) (by omega)
    | rfl
    | (exact decide_eq_false (by omega))
    | (exact decide_eq_true (by omega))
    | exact hc5
    | exact congrArg (fun n => AV.slg 6 0 0 n 0) (by omega)
    | exact row_str (by simp <;> omega) (has_more (v := x6) (has_more (v := [47]) (has_more (v := x5) (has_more (v := [47]) (has_more (v := x4) (has_more (v := [47]) (has_more (v := x3) (has_more (v := [47]) (has_more (v := x2) (has_more (v := [47]) (has_more (v := x1) (has_more (v := [47]) (has_more (u := []) (v := x0) has_none (by simp) (by simp)) (by simp <;> omega) (by simp <;> omega)) (by simp <;> omega) (by simp <;> omega)) (by simp <;> omega) (by simp <;> omega)) (by simp <;> omega) (by simp <;> omega)) (by simp <;> omega) (by simp <;> omega)) (by simp <;> omega) (by simp <;> omega)) (by simp <;> omega) (by simp <;> omega)) (by simp <;> omega) (by simp <;> omega)) (by simp <;> omega) (by simp <;> omega)) (by simp <;> omega) (by simp <;> omega)) (by simp <;> omega) (by simp <;> omega)) (by simp <;> omega) (by simp <;> omega))
    | (simp; omega)
    | (simp; done)

theorem j8_ok {g : Nat → List UInt8} {z : Nat} {G : T (T AV)} {x0 x1 x2 x3 x4 x5 x6 x7 : List UInt8} (hg : ∀ k x, ([x0, x1, x2, x3, x4, x5, x6, x7] : List (List UInt8))[k]? = some x → g k = x) (hz : 8 ≤ z)
    (b0 : 1 ≤ x0.length ∧ x0.length ≤ 16) (b1 : 1 ≤ x1.length ∧ x1.length ≤ 16) (b2 : 1 ≤ x2.length ∧ x2.length ≤ 16) (b3 : 1 ≤ x3.length ∧ x3.length ≤ 16) (b4 : 1 ≤ x4.length ∧ x4.length ≤ 16) (b5 : 1 ≤ x5.length ∧ x5.length ≤ 16) (b6 : 1 ≤ x6.length ∧ x6.length ≤ 16) (b7 : 1 ≤ x7.length ∧ x7.length ≤ 16) : Goal P 0 6 (fun v _ => v = tup (x0 ++ [47] ++ x1 ++ [47] ++ x2 ++ [47] ++ x3 ++ [47] ++ x4 ++ [47] ++ x5 ++ [47] ++ x6 ++ [47] ++ x7, 0)) (Xb g 8 z G) := by
  have hm : (x0.length + 1 + x1.length + 1 + x2.length + 1 + x3.length + 1 + x4.length + 1 + x5.length + 1 + x6.length + 1 + x7.length) - 1 + 1 = x0.length + 1 + x1.length + 1 + x2.length + 1 + x3.length + 1 + x4.length + 1 + x5.length + 1 + x6.length + 1 + x7.length := by omega
  refine Obl.goal (K := fun _ => False) mix (fun _ h => h.elim) (cast (j8 (fun v => v = tup (x0 ++ [47] ++ x1 ++ [47] ++ x2 ++ [47] ++ x3 ++ [47] ++ x4 ++ [47] ++ x5 ++ [47] ++ x6 ++ [47] ++ x7, 0)) x0 x1 x2 x3 x4 x5 x6 x7 g z ((x0.length + 1 + x1.length + 1 + x2.length + 1 + x3.length + 1 + x4.length + 1 + x5.length + 1 + x6.length + 1 + x7.length) - 1) G _).symm ?_)
  simp (disch := omega) only [wi, Int.ofNat_eq_natCast, hm]
  and_intros
  all_goals first
    | exact rowL_tells hg
    | omega
    | exact congrArg (fun n => AV.slg 6 0 0 n 0) (by omega)
    | rfl
    | (exact decide_eq_false (by omega))
    | (exact decide_eq_true (by omega))
    | exact hc5
    | exact congrArg (fun n => AV.slg 6 0 0 n 0) (by omega)
    | exact row_str (by simp <;> omega) (has_more (v := x7) (has_more (v := [47]) (has_more (v := x6) (has_more (v := [47]) (has_more (v := x5) (has_more (v := [47]) (has_more (v := x4) (has_more (v := [47]) (has_more (v := x3) (has_more (v := [47]) (has_more (v := x2) (has_more (v := [47]) (has_more (v := x1) (has_more (v := [47]) (has_more (u := []) (v := x0) has_none (by simp) (by simp)) (by simp <;> omega) (by simp <;> omega)) (by simp <;> omega) (by simp <;> omega)) (by simp <;> omega) (by simp <;> omega)) (by simp <;> omega) (by simp <;> omega)) (by simp <;> omega) (by simp <;> omega)) (by simp <;> omega) (by simp <;> omega)) (by simp <;> omega) (by simp <;> omega)) (by simp <;> omega) (by simp <;> omega)) (by simp <;> omega) (by simp <;> omega)) (by simp <;> omega) (by simp <;> omega)) (by simp <;> omega) (by simp <;> omega)) (by simp <;> omega) (by simp <;> omega)) (by simp <;> omega) (by simp <;> omega)) (by simp <;> omega) (by simp <;> omega))
    | (simp; omega)
    | (simp; done)

/-- What is answered behind the last piece, whatever the segments. -/
theorem xb_ok {g : Nat → List UInt8} {z : Nat} {G : T (T AV)} {l : List (List UInt8)} (hg : ∀ k x, l[k]? = some x → g k = x) (hz : l.length ≤ z) (hs : ∀ x ∈ l, segm x = true) :
    Goal P 0 6 (fun v _ => v = tup (fin (some l))) (Xb g l.length z G) := by
  match l, hg, hz, hs with
  | [], _, _, _ => exact Obl.goal (K := fun _ => False) mix (fun _ h => h.elim) (cast (xey (fun v => v = tup (fin (some []))) g 0 z G _).symm ⟨rfl, rfl⟩)
  | [x0], hg, hz, _ =>
    have e : g 0 = x0 := hg 0 x0 rfl
    exact Obl.goal (K := fun _ => False) mix (fun _ h => h.elim) (cast (x1 (fun v => v = tup (fin (some [x0]))) g z G _).symm ⟨hz, by rw [e]; rfl⟩)
  | [x0, x1], hg, hz, hs => exact j2_ok hg hz (seg_len (hs x0 (by simp))) (seg_len (hs x1 (by simp)))
  | [x0, x1, x2], hg, hz, hs => exact j3_ok hg hz (seg_len (hs x0 (by simp))) (seg_len (hs x1 (by simp))) (seg_len (hs x2 (by simp)))
  | [x0, x1, x2, x3], hg, hz, hs => exact j4_ok hg hz (seg_len (hs x0 (by simp))) (seg_len (hs x1 (by simp))) (seg_len (hs x2 (by simp))) (seg_len (hs x3 (by simp)))
  | [x0, x1, x2, x3, x4], hg, hz, hs => exact j5_ok hg hz (seg_len (hs x0 (by simp))) (seg_len (hs x1 (by simp))) (seg_len (hs x2 (by simp))) (seg_len (hs x3 (by simp))) (seg_len (hs x4 (by simp)))
  | [x0, x1, x2, x3, x4, x5], hg, hz, hs => exact j6_ok hg hz (seg_len (hs x0 (by simp))) (seg_len (hs x1 (by simp))) (seg_len (hs x2 (by simp))) (seg_len (hs x3 (by simp))) (seg_len (hs x4 (by simp))) (seg_len (hs x5 (by simp)))
  | [x0, x1, x2, x3, x4, x5, x6], hg, hz, hs => exact j7_ok hg hz (seg_len (hs x0 (by simp))) (seg_len (hs x1 (by simp))) (seg_len (hs x2 (by simp))) (seg_len (hs x3 (by simp))) (seg_len (hs x4 (by simp))) (seg_len (hs x5 (by simp))) (seg_len (hs x6 (by simp)))
  | [x0, x1, x2, x3, x4, x5, x6, x7], hg, hz, hs => exact j8_ok hg hz (seg_len (hs x0 (by simp))) (seg_len (hs x1 (by simp))) (seg_len (hs x2 (by simp))) (seg_len (hs x3 (by simp))) (seg_len (hs x4 (by simp))) (seg_len (hs x5 (by simp))) (seg_len (hs x6 (by simp))) (seg_len (hs x7 (by simp)))
  | x0 :: x1 :: x2 :: x3 :: x4 :: x5 :: x6 :: x7 :: x8 :: r, _, _, _ =>
    have hl : (x0 :: x1 :: x2 :: x3 :: x4 :: x5 :: x6 :: x7 :: x8 :: r).length = r.length + 9 := by simp
    rw [hl]
    refine Obl.goal (K := fun _ => False) mix (fun _ h => h.elim) (cast (xeny (fun v => v = tup (fin (some (x0 :: x1 :: x2 :: x3 :: x4 :: x5 :: x6 :: x7 :: x8 :: r)))) g (r.length + 9) z G _).symm ⟨decide_eq_false (by omega), decide_eq_true (by omega), ?_⟩)
    have : fin (some (x0 :: x1 :: x2 :: x3 :: x4 :: x5 :: x6 :: x7 :: x8 :: r)) = ([], 6) := by
      unfold fin
      simp
    rw [this]
    rfl

end Go.Proofs.Ytdpgaemeapeilaa.pth
