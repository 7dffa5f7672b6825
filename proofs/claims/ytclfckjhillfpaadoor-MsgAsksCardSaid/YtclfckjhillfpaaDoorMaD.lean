/- May a request be: the document's answer. -/
import Derived.Test.YtclfckjhillfpaaDoorMaC2
set_option maxRecDepth 100000
set_option linter.unusedVariables false
namespace Go.Proofs.YtclfckjhillfpaaDoor.mq
open Go Ev

theorem rk1y (R : AV → Prop) (a b c : List UInt8) (_K : AM → Prop) : Obl P 8 (fun v _ => R v) 0 _K [.run 69, .know 28 true, .run 24, .done] ((startM P 8 [.agg [.int .i64 1, .str a, .str b, .str c]] GW)) = (((!a == ([] : List UInt8)) = true) ∧ (R (.int .i64 2))) := by kernel_rfl

theorem rk1ny (R : AV → Prop) (a b c : List UInt8) (_K : AM → Prop) : Obl P 8 (fun v _ => R v) 0 _K [.run 69, .know 28 false, .run 9, .know 37 true, .run 15, .done] ((startM P 8 [.agg [.int .i64 1, .str a, .str b, .str c]] GW)) = (((!a == ([] : List UInt8)) = false) ∧ ((!b == ([] : List UInt8)) = true) ∧ (R (.int .i64 2))) := by kernel_rfl

theorem rk1nny (R : AV → Prop) (a b c : List UInt8) (_K : AM → Prop) : Obl P 8 (fun v _ => R v) 0 _K [.run 69, .know 28 false, .run 9, .know 37 false, .run 19, .know 50 true, .run 18, .done] ((startM P 8 [.agg [.int .i64 1, .str a, .str b, .str c]] GW)) = (((!a == ([] : List UInt8)) = false) ∧ ((!b == ([] : List UInt8)) = false) ∧ (decide ((↑a.length : Int) > (64 : Int)) = true) ∧ (R (.int .i64 3))) := by kernel_rfl

theorem rk1nnny (R : AV → Prop) (a b c : List UInt8) (_K : AM → Prop) : Obl P 8 (fun v _ => R v) 0 _K [.run 69, .know 28 false, .run 9, .know 37 false, .run 19, .know 50 false, .run 6, .know 56 true, .run 12, .done] ((startM P 8 [.agg [.int .i64 1, .str a, .str b, .str c]] GW)) = (((!a == ([] : List UInt8)) = false) ∧ ((!b == ([] : List UInt8)) = false) ∧ (decide ((↑a.length : Int) > (64 : Int)) = false) ∧ (decide ((↑b.length : Int) > (200 : Int)) = true) ∧ (R (.int .i64 3))) := by kernel_rfl

theorem rk1nnnny (R : AV → Prop) (a b c : List UInt8) (_K : AM → Prop) : Obl P 8 (fun v _ => R v) 0 _K [.run 69, .know 28 false, .run 9, .know 37 false, .run 19, .know 50 false, .run 6, .know 56 false, .run 6, .know 61 true, .run 6, .done] ((startM P 8 [.agg [.int .i64 1, .str a, .str b, .str c]] GW)) = (((!a == ([] : List UInt8)) = false) ∧ ((!b == ([] : List UInt8)) = false) ∧ (decide ((↑a.length : Int) > (64 : Int)) = false) ∧ (decide ((↑b.length : Int) > (200 : Int)) = false) ∧ (decide ((↑c.length : Int) > (5000 : Int)) = true) ∧ (R (.int .i64 3))) := by kernel_rfl

theorem rk1nnnnn (R : AV → Prop) (a b c : List UInt8) (_K : AM → Prop) : Obl P 8 (fun v _ => R v) 0 _K [.run 69, .know 28 false, .run 9, .know 37 false, .run 19, .know 50 false, .run 6, .know 56 false, .run 6, .know 61 false, .run 7, .done] ((startM P 8 [.agg [.int .i64 1, .str a, .str b, .str c]] GW)) = (((!a == ([] : List UInt8)) = false) ∧ ((!b == ([] : List UInt8)) = false) ∧ (decide ((↑a.length : Int) > (64 : Int)) = false) ∧ (decide ((↑b.length : Int) > (200 : Int)) = false) ∧ (decide ((↑c.length : Int) > (5000 : Int)) = false) ∧ (R (.int .i64 0))) := by kernel_rfl

theorem rk1_ok (a b c : List UInt8) : Goal P 0 8 (fun v _ => v = .int .i64 (chkL 0 0 5000 a b c)) (startM P 8 [.agg [.int .i64 1, .str a, .str b, .str c]] GW) := by
  cases h0 : ((!a == ([] : List UInt8))) with
  | true =>
    have g0 := neT h0; exact Obl.goal (K := fun _ => False) mix (fun _ h => h.elim) (cast (rk1y _ a b c _).symm ⟨h0, congrArg (AV.int .i64) (chk2 (by omega)).symm⟩)
  | false =>
    cases h1 : ((!b == ([] : List UInt8))) with
    | true =>
      have g0 := neF h0; have g1 := neT h1; exact Obl.goal (K := fun _ => False) mix (fun _ h => h.elim) (cast (rk1ny _ a b c _).symm ⟨h0, h1, congrArg (AV.int .i64) (chk2 (by omega)).symm⟩)
    | false =>
      cases h2 : (decide ((↑a.length : Int) > (64 : Int))) with
      | true =>
        have g0 := neF h0; have g1 := neF h1; have g2 := of_decide_eq_true h2; exact Obl.goal (K := fun _ => False) mix (fun _ h => h.elim) (cast (rk1nny _ a b c _).symm ⟨h0, h1, h2, congrArg (AV.int .i64) (chk3 (by omega) (by omega)).symm⟩)
      | false =>
        cases h3 : (decide ((↑b.length : Int) > (200 : Int))) with
        | true =>
          have g0 := neF h0; have g1 := neF h1; have g2 := of_decide_eq_false h2; have g3 := of_decide_eq_true h3; exact Obl.goal (K := fun _ => False) mix (fun _ h => h.elim) (cast (rk1nnny _ a b c _).symm ⟨h0, h1, h2, h3, congrArg (AV.int .i64) (chk3 (by omega) (by omega)).symm⟩)
        | false =>
          cases h4 : (decide ((↑c.length : Int) > (5000 : Int))) with
          | true =>
            have g0 := neF h0; have g1 := neF h1; have g2 := of_decide_eq_false h2; have g3 := of_decide_eq_false h3; have g4 := of_decide_eq_true h4; exact Obl.goal (K := fun _ => False) mix (fun _ h => h.elim) (cast (rk1nnnny _ a b c _).symm ⟨h0, h1, h2, h3, h4, congrArg (AV.int .i64) (chk3 (by omega) (by omega)).symm⟩)
          | false =>
            have g0 := neF h0; have g1 := neF h1; have g2 := of_decide_eq_false h2; have g3 := of_decide_eq_false h3; have g4 := of_decide_eq_false h4; exact Obl.goal (K := fun _ => False) mix (fun _ h => h.elim) (cast (rk1nnnnn _ a b c _).symm ⟨h0, h1, h2, h3, h4, congrArg (AV.int .i64) (chk0 (by omega) (by omega)).symm⟩)


theorem rk2y (R : AV → Prop) (a b c : List UInt8) (_K : AM → Prop) : Obl P 8 (fun v _ => R v) 0 _K [.run 87, .know 37 true, .run 15, .done] ((startM P 8 [.agg [.int .i64 2, .str a, .str b, .str c]] GW)) = (((!b == ([] : List UInt8)) = true) ∧ (R (.int .i64 2))) := by kernel_rfl

theorem rk2ny (R : AV → Prop) (a b c : List UInt8) (_K : AM → Prop) : Obl P 8 (fun v _ => R v) 0 _K [.run 87, .know 37 false, .run 9, .know 45 true, .run 6, .done] ((startM P 8 [.agg [.int .i64 2, .str a, .str b, .str c]] GW)) = (((!b == ([] : List UInt8)) = false) ∧ ((!c == ([] : List UInt8)) = true) ∧ (R (.int .i64 2))) := by kernel_rfl

theorem rk2nny (R : AV → Prop) (a b c : List UInt8) (_K : AM → Prop) : Obl P 8 (fun v _ => R v) 0 _K [.run 87, .know 37 false, .run 9, .know 45 false, .run 10, .know 50 true, .run 18, .done] ((startM P 8 [.agg [.int .i64 2, .str a, .str b, .str c]] GW)) = (((!b == ([] : List UInt8)) = false) ∧ ((!c == ([] : List UInt8)) = false) ∧ (decide ((↑a.length : Int) > (64 : Int)) = true) ∧ (R (.int .i64 3))) := by kernel_rfl

theorem rk2nnny (R : AV → Prop) (a b c : List UInt8) (_K : AM → Prop) : Obl P 8 (fun v _ => R v) 0 _K [.run 87, .know 37 false, .run 9, .know 45 false, .run 10, .know 50 false, .run 6, .know 56 true, .run 12, .done] ((startM P 8 [.agg [.int .i64 2, .str a, .str b, .str c]] GW)) = (((!b == ([] : List UInt8)) = false) ∧ ((!c == ([] : List UInt8)) = false) ∧ (decide ((↑a.length : Int) > (64 : Int)) = false) ∧ (decide ((↑b.length : Int) > (200 : Int)) = true) ∧ (R (.int .i64 3))) := by kernel_rfl

theorem rk2nnnny (R : AV → Prop) (a b c : List UInt8) (_K : AM → Prop) : Obl P 8 (fun v _ => R v) 0 _K [.run 87, .know 37 false, .run 9, .know 45 false, .run 10, .know 50 false, .run 6, .know 56 false, .run 6, .know 61 true, .run 6, .done] ((startM P 8 [.agg [.int .i64 2, .str a, .str b, .str c]] GW)) = (((!b == ([] : List UInt8)) = false) ∧ ((!c == ([] : List UInt8)) = false) ∧ (decide ((↑a.length : Int) > (64 : Int)) = false) ∧ (decide ((↑b.length : Int) > (200 : Int)) = false) ∧ (decide ((↑c.length : Int) > (5000 : Int)) = true) ∧ (R (.int .i64 3))) := by kernel_rfl

theorem rk2nnnnn (R : AV → Prop) (a b c : List UInt8) (_K : AM → Prop) : Obl P 8 (fun v _ => R v) 0 _K [.run 87, .know 37 false, .run 9, .know 45 false, .run 10, .know 50 false, .run 6, .know 56 false, .run 6, .know 61 false, .run 7, .done] ((startM P 8 [.agg [.int .i64 2, .str a, .str b, .str c]] GW)) = (((!b == ([] : List UInt8)) = false) ∧ ((!c == ([] : List UInt8)) = false) ∧ (decide ((↑a.length : Int) > (64 : Int)) = false) ∧ (decide ((↑b.length : Int) > (200 : Int)) = false) ∧ (decide ((↑c.length : Int) > (5000 : Int)) = false) ∧ (R (.int .i64 0))) := by kernel_rfl

theorem rk2_ok (a b c : List UInt8) : Goal P 0 8 (fun v _ => v = .int .i64 (chkL 64 0 0 a b c)) (startM P 8 [.agg [.int .i64 2, .str a, .str b, .str c]] GW) := by
  cases h0 : ((!b == ([] : List UInt8))) with
  | true =>
    have g0 := neT h0; exact Obl.goal (K := fun _ => False) mix (fun _ h => h.elim) (cast (rk2y _ a b c _).symm ⟨h0, congrArg (AV.int .i64) (chk2 (by omega)).symm⟩)
  | false =>
    cases h1 : ((!c == ([] : List UInt8))) with
    | true =>
      have g0 := neF h0; have g1 := neT h1; exact Obl.goal (K := fun _ => False) mix (fun _ h => h.elim) (cast (rk2ny _ a b c _).symm ⟨h0, h1, congrArg (AV.int .i64) (chk2 (by omega)).symm⟩)
    | false =>
      cases h2 : (decide ((↑a.length : Int) > (64 : Int))) with
      | true =>
        have g0 := neF h0; have g1 := neF h1; have g2 := of_decide_eq_true h2; exact Obl.goal (K := fun _ => False) mix (fun _ h => h.elim) (cast (rk2nny _ a b c _).symm ⟨h0, h1, h2, congrArg (AV.int .i64) (chk3 (by omega) (by omega)).symm⟩)
      | false =>
        cases h3 : (decide ((↑b.length : Int) > (200 : Int))) with
        | true =>
          have g0 := neF h0; have g1 := neF h1; have g2 := of_decide_eq_false h2; have g3 := of_decide_eq_true h3; exact Obl.goal (K := fun _ => False) mix (fun _ h => h.elim) (cast (rk2nnny _ a b c _).symm ⟨h0, h1, h2, h3, congrArg (AV.int .i64) (chk3 (by omega) (by omega)).symm⟩)
        | false =>
          cases h4 : (decide ((↑c.length : Int) > (5000 : Int))) with
          | true =>
            have g0 := neF h0; have g1 := neF h1; have g2 := of_decide_eq_false h2; have g3 := of_decide_eq_false h3; have g4 := of_decide_eq_true h4; exact Obl.goal (K := fun _ => False) mix (fun _ h => h.elim) (cast (rk2nnnny _ a b c _).symm ⟨h0, h1, h2, h3, h4, congrArg (AV.int .i64) (chk3 (by omega) (by omega)).symm⟩)
          | false =>
            have g0 := neF h0; have g1 := neF h1; have g2 := of_decide_eq_false h2; have g3 := of_decide_eq_false h3; have g4 := of_decide_eq_false h4; exact Obl.goal (K := fun _ => False) mix (fun _ h => h.elim) (cast (rk2nnnnn _ a b c _).symm ⟨h0, h1, h2, h3, h4, congrArg (AV.int .i64) (chk0 (by omega) (by omega)).symm⟩)


theorem rk3y (R : AV → Prop) (a b c : List UInt8) (_K : AM → Prop) : Obl P 8 (fun v _ => R v) 0 _K [.run 129, .know 50 true, .run 18, .done] ((startM P 8 [.agg [.int .i64 3, .str a, .str b, .str c]] GW)) = ((decide ((↑a.length : Int) > (64 : Int)) = true) ∧ (R (.int .i64 3))) := by kernel_rfl

theorem rk3ny (R : AV → Prop) (a b c : List UInt8) (_K : AM → Prop) : Obl P 8 (fun v _ => R v) 0 _K [.run 129, .know 50 false, .run 6, .know 56 true, .run 12, .done] ((startM P 8 [.agg [.int .i64 3, .str a, .str b, .str c]] GW)) = ((decide ((↑a.length : Int) > (64 : Int)) = false) ∧ (decide ((↑b.length : Int) > (200 : Int)) = true) ∧ (R (.int .i64 3))) := by kernel_rfl

theorem rk3nny (R : AV → Prop) (a b c : List UInt8) (_K : AM → Prop) : Obl P 8 (fun v _ => R v) 0 _K [.run 129, .know 50 false, .run 6, .know 56 false, .run 6, .know 61 true, .run 6, .done] ((startM P 8 [.agg [.int .i64 3, .str a, .str b, .str c]] GW)) = ((decide ((↑a.length : Int) > (64 : Int)) = false) ∧ (decide ((↑b.length : Int) > (200 : Int)) = false) ∧ (decide ((↑c.length : Int) > (5000 : Int)) = true) ∧ (R (.int .i64 3))) := by kernel_rfl

theorem rk3nnn (R : AV → Prop) (a b c : List UInt8) (_K : AM → Prop) : Obl P 8 (fun v _ => R v) 0 _K [.run 129, .know 50 false, .run 6, .know 56 false, .run 6, .know 61 false, .run 7, .done] ((startM P 8 [.agg [.int .i64 3, .str a, .str b, .str c]] GW)) = ((decide ((↑a.length : Int) > (64 : Int)) = false) ∧ (decide ((↑b.length : Int) > (200 : Int)) = false) ∧ (decide ((↑c.length : Int) > (5000 : Int)) = false) ∧ (R (.int .i64 0))) := by kernel_rfl

theorem rk3_ok (a b c : List UInt8) : Goal P 0 8 (fun v _ => v = .int .i64 (chkL 64 200 5000 a b c)) (startM P 8 [.agg [.int .i64 3, .str a, .str b, .str c]] GW) := by
  cases h0 : (decide ((↑a.length : Int) > (64 : Int))) with
  | true =>
    have g0 := of_decide_eq_true h0; exact Obl.goal (K := fun _ => False) mix (fun _ h => h.elim) (cast (rk3y _ a b c _).symm ⟨h0, congrArg (AV.int .i64) (chk3 (by omega) (by omega)).symm⟩)
  | false =>
    cases h1 : (decide ((↑b.length : Int) > (200 : Int))) with
    | true =>
      have g0 := of_decide_eq_false h0; have g1 := of_decide_eq_true h1; exact Obl.goal (K := fun _ => False) mix (fun _ h => h.elim) (cast (rk3ny _ a b c _).symm ⟨h0, h1, congrArg (AV.int .i64) (chk3 (by omega) (by omega)).symm⟩)
    | false =>
      cases h2 : (decide ((↑c.length : Int) > (5000 : Int))) with
      | true =>
        have g0 := of_decide_eq_false h0; have g1 := of_decide_eq_false h1; have g2 := of_decide_eq_true h2; exact Obl.goal (K := fun _ => False) mix (fun _ h => h.elim) (cast (rk3nny _ a b c _).symm ⟨h0, h1, h2, congrArg (AV.int .i64) (chk3 (by omega) (by omega)).symm⟩)
      | false =>
        have g0 := of_decide_eq_false h0; have g1 := of_decide_eq_false h1; have g2 := of_decide_eq_false h2; exact Obl.goal (K := fun _ => False) mix (fun _ h => h.elim) (cast (rk3nnn _ a b c _).symm ⟨h0, h1, h2, congrArg (AV.int .i64) (chk0 (by omega) (by omega)).symm⟩)


theorem rk4y (R : AV → Prop) (a b c : List UInt8) (_K : AM → Prop) : Obl P 8 (fun v _ => R v) 0 _K [.run 114, .know 45 true, .run 6, .done] ((startM P 8 [.agg [.int .i64 4, .str a, .str b, .str c]] GW)) = (((!c == ([] : List UInt8)) = true) ∧ (R (.int .i64 2))) := by kernel_rfl

theorem rk4ny (R : AV → Prop) (a b c : List UInt8) (_K : AM → Prop) : Obl P 8 (fun v _ => R v) 0 _K [.run 114, .know 45 false, .run 10, .know 50 true, .run 18, .done] ((startM P 8 [.agg [.int .i64 4, .str a, .str b, .str c]] GW)) = (((!c == ([] : List UInt8)) = false) ∧ (decide ((↑a.length : Int) > (64 : Int)) = true) ∧ (R (.int .i64 3))) := by kernel_rfl

theorem rk4nny (R : AV → Prop) (a b c : List UInt8) (_K : AM → Prop) : Obl P 8 (fun v _ => R v) 0 _K [.run 114, .know 45 false, .run 10, .know 50 false, .run 6, .know 56 true, .run 12, .done] ((startM P 8 [.agg [.int .i64 4, .str a, .str b, .str c]] GW)) = (((!c == ([] : List UInt8)) = false) ∧ (decide ((↑a.length : Int) > (64 : Int)) = false) ∧ (decide ((↑b.length : Int) > (200 : Int)) = true) ∧ (R (.int .i64 3))) := by kernel_rfl

theorem rk4nnny (R : AV → Prop) (a b c : List UInt8) (_K : AM → Prop) : Obl P 8 (fun v _ => R v) 0 _K [.run 114, .know 45 false, .run 10, .know 50 false, .run 6, .know 56 false, .run 6, .know 61 true, .run 6, .done] ((startM P 8 [.agg [.int .i64 4, .str a, .str b, .str c]] GW)) = (((!c == ([] : List UInt8)) = false) ∧ (decide ((↑a.length : Int) > (64 : Int)) = false) ∧ (decide ((↑b.length : Int) > (200 : Int)) = false) ∧ (decide ((↑c.length : Int) > (5000 : Int)) = true) ∧ (R (.int .i64 3))) := by kernel_rfl

theorem rk4nnnn (R : AV → Prop) (a b c : List UInt8) (_K : AM → Prop) : Obl P 8 (fun v _ => R v) 0 _K [.run 114, .know 45 false, .run 10, .know 50 false, .run 6, .know 56 false, .run 6, .know 61 false, .run 7, .done] ((startM P 8 [.agg [.int .i64 4, .str a, .str b, .str c]] GW)) = (((!c == ([] : List UInt8)) = false) ∧ (decide ((↑a.length : Int) > (64 : Int)) = false) ∧ (decide ((↑b.length : Int) > (200 : Int)) = false) ∧ (decide ((↑c.length : Int) > (5000 : Int)) = false) ∧ (R (.int .i64 0))) := by kernel_rfl

theorem rk4_ok (a b c : List UInt8) : Goal P 0 8 (fun v _ => v = .int .i64 (chkL 64 200 0 a b c)) (startM P 8 [.agg [.int .i64 4, .str a, .str b, .str c]] GW) := by
  cases h0 : ((!c == ([] : List UInt8))) with
  | true =>
    have g0 := neT h0; exact Obl.goal (K := fun _ => False) mix (fun _ h => h.elim) (cast (rk4y _ a b c _).symm ⟨h0, congrArg (AV.int .i64) (chk2 (by omega)).symm⟩)
  | false =>
    cases h1 : (decide ((↑a.length : Int) > (64 : Int))) with
    | true =>
      have g0 := neF h0; have g1 := of_decide_eq_true h1; exact Obl.goal (K := fun _ => False) mix (fun _ h => h.elim) (cast (rk4ny _ a b c _).symm ⟨h0, h1, congrArg (AV.int .i64) (chk3 (by omega) (by omega)).symm⟩)
    | false =>
      cases h2 : (decide ((↑b.length : Int) > (200 : Int))) with
      | true =>
        have g0 := neF h0; have g1 := of_decide_eq_false h1; have g2 := of_decide_eq_true h2; exact Obl.goal (K := fun _ => False) mix (fun _ h => h.elim) (cast (rk4nny _ a b c _).symm ⟨h0, h1, h2, congrArg (AV.int .i64) (chk3 (by omega) (by omega)).symm⟩)
      | false =>
        cases h3 : (decide ((↑c.length : Int) > (5000 : Int))) with
        | true =>
          have g0 := neF h0; have g1 := of_decide_eq_false h1; have g2 := of_decide_eq_false h2; have g3 := of_decide_eq_true h3; exact Obl.goal (K := fun _ => False) mix (fun _ h => h.elim) (cast (rk4nnny _ a b c _).symm ⟨h0, h1, h2, h3, congrArg (AV.int .i64) (chk3 (by omega) (by omega)).symm⟩)
        | false =>
          have g0 := neF h0; have g1 := of_decide_eq_false h1; have g2 := of_decide_eq_false h2; have g3 := of_decide_eq_false h3; exact Obl.goal (K := fun _ => False) mix (fun _ h => h.elim) (cast (rk4nnnn _ a b c _).symm ⟨h0, h1, h2, h3, congrArg (AV.int .i64) (chk0 (by omega) (by omega)).symm⟩)


theorem rk5y (R : AV → Prop) (a b c : List UInt8) (_K : AM → Prop) : Obl P 8 (fun v _ => R v) 0 _K [.run 129, .know 50 true, .run 18, .done] ((startM P 8 [.agg [.int .i64 5, .str a, .str b, .str c]] GW)) = ((decide ((↑a.length : Int) > (64 : Int)) = true) ∧ (R (.int .i64 3))) := by kernel_rfl

theorem rk5ny (R : AV → Prop) (a b c : List UInt8) (_K : AM → Prop) : Obl P 8 (fun v _ => R v) 0 _K [.run 129, .know 50 false, .run 6, .know 56 true, .run 12, .done] ((startM P 8 [.agg [.int .i64 5, .str a, .str b, .str c]] GW)) = ((decide ((↑a.length : Int) > (64 : Int)) = false) ∧ (decide ((↑b.length : Int) > (200 : Int)) = true) ∧ (R (.int .i64 3))) := by kernel_rfl

theorem rk5nny (R : AV → Prop) (a b c : List UInt8) (_K : AM → Prop) : Obl P 8 (fun v _ => R v) 0 _K [.run 129, .know 50 false, .run 6, .know 56 false, .run 6, .know 61 true, .run 6, .done] ((startM P 8 [.agg [.int .i64 5, .str a, .str b, .str c]] GW)) = ((decide ((↑a.length : Int) > (64 : Int)) = false) ∧ (decide ((↑b.length : Int) > (200 : Int)) = false) ∧ (decide ((↑c.length : Int) > (5000 : Int)) = true) ∧ (R (.int .i64 3))) := by kernel_rfl

theorem rk5nnn (R : AV → Prop) (a b c : List UInt8) (_K : AM → Prop) : Obl P 8 (fun v _ => R v) 0 _K [.run 129, .know 50 false, .run 6, .know 56 false, .run 6, .know 61 false, .run 7, .done] ((startM P 8 [.agg [.int .i64 5, .str a, .str b, .str c]] GW)) = ((decide ((↑a.length : Int) > (64 : Int)) = false) ∧ (decide ((↑b.length : Int) > (200 : Int)) = false) ∧ (decide ((↑c.length : Int) > (5000 : Int)) = false) ∧ (R (.int .i64 0))) := by kernel_rfl

theorem rk5_ok (a b c : List UInt8) : Goal P 0 8 (fun v _ => v = .int .i64 (chkL 64 200 5000 a b c)) (startM P 8 [.agg [.int .i64 5, .str a, .str b, .str c]] GW) := by
  cases h0 : (decide ((↑a.length : Int) > (64 : Int))) with
  | true =>
    have g0 := of_decide_eq_true h0; exact Obl.goal (K := fun _ => False) mix (fun _ h => h.elim) (cast (rk5y _ a b c _).symm ⟨h0, congrArg (AV.int .i64) (chk3 (by omega) (by omega)).symm⟩)
  | false =>
    cases h1 : (decide ((↑b.length : Int) > (200 : Int))) with
    | true =>
      have g0 := of_decide_eq_false h0; have g1 := of_decide_eq_true h1; exact Obl.goal (K := fun _ => False) mix (fun _ h => h.elim) (cast (rk5ny _ a b c _).symm ⟨h0, h1, congrArg (AV.int .i64) (chk3 (by omega) (by omega)).symm⟩)
    | false =>
      cases h2 : (decide ((↑c.length : Int) > (5000 : Int))) with
      | true =>
        have g0 := of_decide_eq_false h0; have g1 := of_decide_eq_false h1; have g2 := of_decide_eq_true h2; exact Obl.goal (K := fun _ => False) mix (fun _ h => h.elim) (cast (rk5nny _ a b c _).symm ⟨h0, h1, h2, congrArg (AV.int .i64) (chk3 (by omega) (by omega)).symm⟩)
      | false =>
        have g0 := of_decide_eq_false h0; have g1 := of_decide_eq_false h1; have g2 := of_decide_eq_false h2; exact Obl.goal (K := fun _ => False) mix (fun _ h => h.elim) (cast (rk5nnn _ a b c _).symm ⟨h0, h1, h2, congrArg (AV.int .i64) (chk0 (by omega) (by omega)).symm⟩)


theorem rk6y (R : AV → Prop) (a b c : List UInt8) (_K : AM → Prop) : Obl P 8 (fun v _ => R v) 0 _K [.run 117, .know 45 true, .run 6, .done] ((startM P 8 [.agg [.int .i64 6, .str a, .str b, .str c]] GW)) = (((!c == ([] : List UInt8)) = true) ∧ (R (.int .i64 2))) := by kernel_rfl

theorem rk6ny (R : AV → Prop) (a b c : List UInt8) (_K : AM → Prop) : Obl P 8 (fun v _ => R v) 0 _K [.run 117, .know 45 false, .run 10, .know 50 true, .run 18, .done] ((startM P 8 [.agg [.int .i64 6, .str a, .str b, .str c]] GW)) = (((!c == ([] : List UInt8)) = false) ∧ (decide ((↑a.length : Int) > (64 : Int)) = true) ∧ (R (.int .i64 3))) := by kernel_rfl

theorem rk6nny (R : AV → Prop) (a b c : List UInt8) (_K : AM → Prop) : Obl P 8 (fun v _ => R v) 0 _K [.run 117, .know 45 false, .run 10, .know 50 false, .run 6, .know 56 true, .run 12, .done] ((startM P 8 [.agg [.int .i64 6, .str a, .str b, .str c]] GW)) = (((!c == ([] : List UInt8)) = false) ∧ (decide ((↑a.length : Int) > (64 : Int)) = false) ∧ (decide ((↑b.length : Int) > (200 : Int)) = true) ∧ (R (.int .i64 3))) := by kernel_rfl

theorem rk6nnny (R : AV → Prop) (a b c : List UInt8) (_K : AM → Prop) : Obl P 8 (fun v _ => R v) 0 _K [.run 117, .know 45 false, .run 10, .know 50 false, .run 6, .know 56 false, .run 6, .know 61 true, .run 6, .done] ((startM P 8 [.agg [.int .i64 6, .str a, .str b, .str c]] GW)) = (((!c == ([] : List UInt8)) = false) ∧ (decide ((↑a.length : Int) > (64 : Int)) = false) ∧ (decide ((↑b.length : Int) > (200 : Int)) = false) ∧ (decide ((↑c.length : Int) > (5000 : Int)) = true) ∧ (R (.int .i64 3))) := by kernel_rfl

theorem rk6nnnn (R : AV → Prop) (a b c : List UInt8) (_K : AM → Prop) : Obl P 8 (fun v _ => R v) 0 _K [.run 117, .know 45 false, .run 10, .know 50 false, .run 6, .know 56 false, .run 6, .know 61 false, .run 7, .done] ((startM P 8 [.agg [.int .i64 6, .str a, .str b, .str c]] GW)) = (((!c == ([] : List UInt8)) = false) ∧ (decide ((↑a.length : Int) > (64 : Int)) = false) ∧ (decide ((↑b.length : Int) > (200 : Int)) = false) ∧ (decide ((↑c.length : Int) > (5000 : Int)) = false) ∧ (R (.int .i64 0))) := by kernel_rfl

theorem rk6_ok (a b c : List UInt8) : Goal P 0 8 (fun v _ => v = .int .i64 (chkL 64 200 0 a b c)) (startM P 8 [.agg [.int .i64 6, .str a, .str b, .str c]] GW) := by
  cases h0 : ((!c == ([] : List UInt8))) with
  | true =>
    have g0 := neT h0; exact Obl.goal (K := fun _ => False) mix (fun _ h => h.elim) (cast (rk6y _ a b c _).symm ⟨h0, congrArg (AV.int .i64) (chk2 (by omega)).symm⟩)
  | false =>
    cases h1 : (decide ((↑a.length : Int) > (64 : Int))) with
    | true =>
      have g0 := neF h0; have g1 := of_decide_eq_true h1; exact Obl.goal (K := fun _ => False) mix (fun _ h => h.elim) (cast (rk6ny _ a b c _).symm ⟨h0, h1, congrArg (AV.int .i64) (chk3 (by omega) (by omega)).symm⟩)
    | false =>
      cases h2 : (decide ((↑b.length : Int) > (200 : Int))) with
      | true =>
        have g0 := neF h0; have g1 := of_decide_eq_false h1; have g2 := of_decide_eq_true h2; exact Obl.goal (K := fun _ => False) mix (fun _ h => h.elim) (cast (rk6nny _ a b c _).symm ⟨h0, h1, h2, congrArg (AV.int .i64) (chk3 (by omega) (by omega)).symm⟩)
      | false =>
        cases h3 : (decide ((↑c.length : Int) > (5000 : Int))) with
        | true =>
          have g0 := neF h0; have g1 := of_decide_eq_false h1; have g2 := of_decide_eq_false h2; have g3 := of_decide_eq_true h3; exact Obl.goal (K := fun _ => False) mix (fun _ h => h.elim) (cast (rk6nnny _ a b c _).symm ⟨h0, h1, h2, h3, congrArg (AV.int .i64) (chk3 (by omega) (by omega)).symm⟩)
        | false =>
          have g0 := neF h0; have g1 := of_decide_eq_false h1; have g2 := of_decide_eq_false h2; have g3 := of_decide_eq_false h3; exact Obl.goal (K := fun _ => False) mix (fun _ h => h.elim) (cast (rk6nnnn _ a b c _).symm ⟨h0, h1, h2, h3, congrArg (AV.int .i64) (chk0 (by omega) (by omega)).symm⟩)


theorem rk7y (R : AV → Prop) (a b c : List UInt8) (_K : AM → Prop) : Obl P 8 (fun v _ => R v) 0 _K [.run 93, .know 37 true, .run 15, .done] ((startM P 8 [.agg [.int .i64 7, .str a, .str b, .str c]] GW)) = (((!b == ([] : List UInt8)) = true) ∧ (R (.int .i64 2))) := by kernel_rfl

theorem rk7ny (R : AV → Prop) (a b c : List UInt8) (_K : AM → Prop) : Obl P 8 (fun v _ => R v) 0 _K [.run 93, .know 37 false, .run 9, .know 45 true, .run 6, .done] ((startM P 8 [.agg [.int .i64 7, .str a, .str b, .str c]] GW)) = (((!b == ([] : List UInt8)) = false) ∧ ((!c == ([] : List UInt8)) = true) ∧ (R (.int .i64 2))) := by kernel_rfl

theorem rk7nny (R : AV → Prop) (a b c : List UInt8) (_K : AM → Prop) : Obl P 8 (fun v _ => R v) 0 _K [.run 93, .know 37 false, .run 9, .know 45 false, .run 10, .know 50 true, .run 18, .done] ((startM P 8 [.agg [.int .i64 7, .str a, .str b, .str c]] GW)) = (((!b == ([] : List UInt8)) = false) ∧ ((!c == ([] : List UInt8)) = false) ∧ (decide ((↑a.length : Int) > (64 : Int)) = true) ∧ (R (.int .i64 3))) := by kernel_rfl

theorem rk7nnny (R : AV → Prop) (a b c : List UInt8) (_K : AM → Prop) : Obl P 8 (fun v _ => R v) 0 _K [.run 93, .know 37 false, .run 9, .know 45 false, .run 10, .know 50 false, .run 6, .know 56 true, .run 12, .done] ((startM P 8 [.agg [.int .i64 7, .str a, .str b, .str c]] GW)) = (((!b == ([] : List UInt8)) = false) ∧ ((!c == ([] : List UInt8)) = false) ∧ (decide ((↑a.length : Int) > (64 : Int)) = false) ∧ (decide ((↑b.length : Int) > (200 : Int)) = true) ∧ (R (.int .i64 3))) := by kernel_rfl

theorem rk7nnnny (R : AV → Prop) (a b c : List UInt8) (_K : AM → Prop) : Obl P 8 (fun v _ => R v) 0 _K [.run 93, .know 37 false, .run 9, .know 45 false, .run 10, .know 50 false, .run 6, .know 56 false, .run 6, .know 61 true, .run 6, .done] ((startM P 8 [.agg [.int .i64 7, .str a, .str b, .str c]] GW)) = (((!b == ([] : List UInt8)) = false) ∧ ((!c == ([] : List UInt8)) = false) ∧ (decide ((↑a.length : Int) > (64 : Int)) = false) ∧ (decide ((↑b.length : Int) > (200 : Int)) = false) ∧ (decide ((↑c.length : Int) > (5000 : Int)) = true) ∧ (R (.int .i64 3))) := by kernel_rfl

theorem rk7nnnnn (R : AV → Prop) (a b c : List UInt8) (_K : AM → Prop) : Obl P 8 (fun v _ => R v) 0 _K [.run 93, .know 37 false, .run 9, .know 45 false, .run 10, .know 50 false, .run 6, .know 56 false, .run 6, .know 61 false, .run 7, .done] ((startM P 8 [.agg [.int .i64 7, .str a, .str b, .str c]] GW)) = (((!b == ([] : List UInt8)) = false) ∧ ((!c == ([] : List UInt8)) = false) ∧ (decide ((↑a.length : Int) > (64 : Int)) = false) ∧ (decide ((↑b.length : Int) > (200 : Int)) = false) ∧ (decide ((↑c.length : Int) > (5000 : Int)) = false) ∧ (R (.int .i64 0))) := by kernel_rfl

theorem rk7_ok (a b c : List UInt8) : Goal P 0 8 (fun v _ => v = .int .i64 (chkL 64 0 0 a b c)) (startM P 8 [.agg [.int .i64 7, .str a, .str b, .str c]] GW) := by
  cases h0 : ((!b == ([] : List UInt8))) with
  | true =>
    have g0 := neT h0; exact Obl.goal (K := fun _ => False) mix (fun _ h => h.elim) (cast (rk7y _ a b c _).symm ⟨h0, congrArg (AV.int .i64) (chk2 (by omega)).symm⟩)
  | false =>
    cases h1 : ((!c == ([] : List UInt8))) with
    | true =>
      have g0 := neF h0; have g1 := neT h1; exact Obl.goal (K := fun _ => False) mix (fun _ h => h.elim) (cast (rk7ny _ a b c _).symm ⟨h0, h1, congrArg (AV.int .i64) (chk2 (by omega)).symm⟩)
    | false =>
      cases h2 : (decide ((↑a.length : Int) > (64 : Int))) with
      | true =>
        have g0 := neF h0; have g1 := neF h1; have g2 := of_decide_eq_true h2; exact Obl.goal (K := fun _ => False) mix (fun _ h => h.elim) (cast (rk7nny _ a b c _).symm ⟨h0, h1, h2, congrArg (AV.int .i64) (chk3 (by omega) (by omega)).symm⟩)
      | false =>
        cases h3 : (decide ((↑b.length : Int) > (200 : Int))) with
        | true =>
          have g0 := neF h0; have g1 := neF h1; have g2 := of_decide_eq_false h2; have g3 := of_decide_eq_true h3; exact Obl.goal (K := fun _ => False) mix (fun _ h => h.elim) (cast (rk7nnny _ a b c _).symm ⟨h0, h1, h2, h3, congrArg (AV.int .i64) (chk3 (by omega) (by omega)).symm⟩)
        | false =>
          cases h4 : (decide ((↑c.length : Int) > (5000 : Int))) with
          | true =>
            have g0 := neF h0; have g1 := neF h1; have g2 := of_decide_eq_false h2; have g3 := of_decide_eq_false h3; have g4 := of_decide_eq_true h4; exact Obl.goal (K := fun _ => False) mix (fun _ h => h.elim) (cast (rk7nnnny _ a b c _).symm ⟨h0, h1, h2, h3, h4, congrArg (AV.int .i64) (chk3 (by omega) (by omega)).symm⟩)
          | false =>
            have g0 := neF h0; have g1 := neF h1; have g2 := of_decide_eq_false h2; have g3 := of_decide_eq_false h3; have g4 := of_decide_eq_false h4; exact Obl.goal (K := fun _ => False) mix (fun _ h => h.elim) (cast (rk7nnnnn _ a b c _).symm ⟨h0, h1, h2, h3, h4, congrArg (AV.int .i64) (chk0 (by omega) (by omega)).symm⟩)


theorem rk8y (R : AV → Prop) (a b c : List UInt8) (_K : AM → Prop) : Obl P 8 (fun v _ => R v) 0 _K [.run 96, .know 37 true, .run 15, .done] ((startM P 8 [.agg [.int .i64 8, .str a, .str b, .str c]] GW)) = (((!b == ([] : List UInt8)) = true) ∧ (R (.int .i64 2))) := by kernel_rfl

theorem rk8ny (R : AV → Prop) (a b c : List UInt8) (_K : AM → Prop) : Obl P 8 (fun v _ => R v) 0 _K [.run 96, .know 37 false, .run 9, .know 45 true, .run 6, .done] ((startM P 8 [.agg [.int .i64 8, .str a, .str b, .str c]] GW)) = (((!b == ([] : List UInt8)) = false) ∧ ((!c == ([] : List UInt8)) = true) ∧ (R (.int .i64 2))) := by kernel_rfl

theorem rk8nny (R : AV → Prop) (a b c : List UInt8) (_K : AM → Prop) : Obl P 8 (fun v _ => R v) 0 _K [.run 96, .know 37 false, .run 9, .know 45 false, .run 10, .know 50 true, .run 18, .done] ((startM P 8 [.agg [.int .i64 8, .str a, .str b, .str c]] GW)) = (((!b == ([] : List UInt8)) = false) ∧ ((!c == ([] : List UInt8)) = false) ∧ (decide ((↑a.length : Int) > (64 : Int)) = true) ∧ (R (.int .i64 3))) := by kernel_rfl

theorem rk8nnny (R : AV → Prop) (a b c : List UInt8) (_K : AM → Prop) : Obl P 8 (fun v _ => R v) 0 _K [.run 96, .know 37 false, .run 9, .know 45 false, .run 10, .know 50 false, .run 6, .know 56 true, .run 12, .done] ((startM P 8 [.agg [.int .i64 8, .str a, .str b, .str c]] GW)) = (((!b == ([] : List UInt8)) = false) ∧ ((!c == ([] : List UInt8)) = false) ∧ (decide ((↑a.length : Int) > (64 : Int)) = false) ∧ (decide ((↑b.length : Int) > (200 : Int)) = true) ∧ (R (.int .i64 3))) := by kernel_rfl

theorem rk8nnnny (R : AV → Prop) (a b c : List UInt8) (_K : AM → Prop) : Obl P 8 (fun v _ => R v) 0 _K [.run 96, .know 37 false, .run 9, .know 45 false, .run 10, .know 50 false, .run 6, .know 56 false, .run 6, .know 61 true, .run 6, .done] ((startM P 8 [.agg [.int .i64 8, .str a, .str b, .str c]] GW)) = (((!b == ([] : List UInt8)) = false) ∧ ((!c == ([] : List UInt8)) = false) ∧ (decide ((↑a.length : Int) > (64 : Int)) = false) ∧ (decide ((↑b.length : Int) > (200 : Int)) = false) ∧ (decide ((↑c.length : Int) > (5000 : Int)) = true) ∧ (R (.int .i64 3))) := by kernel_rfl

theorem rk8nnnnn (R : AV → Prop) (a b c : List UInt8) (_K : AM → Prop) : Obl P 8 (fun v _ => R v) 0 _K [.run 96, .know 37 false, .run 9, .know 45 false, .run 10, .know 50 false, .run 6, .know 56 false, .run 6, .know 61 false, .run 7, .done] ((startM P 8 [.agg [.int .i64 8, .str a, .str b, .str c]] GW)) = (((!b == ([] : List UInt8)) = false) ∧ ((!c == ([] : List UInt8)) = false) ∧ (decide ((↑a.length : Int) > (64 : Int)) = false) ∧ (decide ((↑b.length : Int) > (200 : Int)) = false) ∧ (decide ((↑c.length : Int) > (5000 : Int)) = false) ∧ (R (.int .i64 0))) := by kernel_rfl

theorem rk8_ok (a b c : List UInt8) : Goal P 0 8 (fun v _ => v = .int .i64 (chkL 64 0 0 a b c)) (startM P 8 [.agg [.int .i64 8, .str a, .str b, .str c]] GW) := by
  cases h0 : ((!b == ([] : List UInt8))) with
  | true =>
    have g0 := neT h0; exact Obl.goal (K := fun _ => False) mix (fun _ h => h.elim) (cast (rk8y _ a b c _).symm ⟨h0, congrArg (AV.int .i64) (chk2 (by omega)).symm⟩)
  | false =>
    cases h1 : ((!c == ([] : List UInt8))) with
    | true =>
      have g0 := neF h0; have g1 := neT h1; exact Obl.goal (K := fun _ => False) mix (fun _ h => h.elim) (cast (rk8ny _ a b c _).symm ⟨h0, h1, congrArg (AV.int .i64) (chk2 (by omega)).symm⟩)
    | false =>
      cases h2 : (decide ((↑a.length : Int) > (64 : Int))) with
      | true =>
        have g0 := neF h0; have g1 := neF h1; have g2 := of_decide_eq_true h2; exact Obl.goal (K := fun _ => False) mix (fun _ h => h.elim) (cast (rk8nny _ a b c _).symm ⟨h0, h1, h2, congrArg (AV.int .i64) (chk3 (by omega) (by omega)).symm⟩)
      | false =>
        cases h3 : (decide ((↑b.length : Int) > (200 : Int))) with
        | true =>
          have g0 := neF h0; have g1 := neF h1; have g2 := of_decide_eq_false h2; have g3 := of_decide_eq_true h3; exact Obl.goal (K := fun _ => False) mix (fun _ h => h.elim) (cast (rk8nnny _ a b c _).symm ⟨h0, h1, h2, h3, congrArg (AV.int .i64) (chk3 (by omega) (by omega)).symm⟩)
        | false =>
          cases h4 : (decide ((↑c.length : Int) > (5000 : Int))) with
          | true =>
            have g0 := neF h0; have g1 := neF h1; have g2 := of_decide_eq_false h2; have g3 := of_decide_eq_false h3; have g4 := of_decide_eq_true h4; exact Obl.goal (K := fun _ => False) mix (fun _ h => h.elim) (cast (rk8nnnny _ a b c _).symm ⟨h0, h1, h2, h3, h4, congrArg (AV.int .i64) (chk3 (by omega) (by omega)).symm⟩)
          | false =>
            have g0 := neF h0; have g1 := neF h1; have g2 := of_decide_eq_false h2; have g3 := of_decide_eq_false h3; have g4 := of_decide_eq_false h4; exact Obl.goal (K := fun _ => False) mix (fun _ h => h.elim) (cast (rk8nnnnn _ a b c _).symm ⟨h0, h1, h2, h3, h4, congrArg (AV.int .i64) (chk0 (by omega) (by omega)).symm⟩)


theorem rk9y (R : AV → Prop) (a b c : List UInt8) (_K : AM → Prop) : Obl P 8 (fun v _ => R v) 0 _K [.run 129, .know 50 true, .run 18, .done] ((startM P 8 [.agg [.int .i64 9, .str a, .str b, .str c]] GW)) = ((decide ((↑a.length : Int) > (64 : Int)) = true) ∧ (R (.int .i64 3))) := by kernel_rfl

theorem rk9ny (R : AV → Prop) (a b c : List UInt8) (_K : AM → Prop) : Obl P 8 (fun v _ => R v) 0 _K [.run 129, .know 50 false, .run 6, .know 56 true, .run 12, .done] ((startM P 8 [.agg [.int .i64 9, .str a, .str b, .str c]] GW)) = ((decide ((↑a.length : Int) > (64 : Int)) = false) ∧ (decide ((↑b.length : Int) > (200 : Int)) = true) ∧ (R (.int .i64 3))) := by kernel_rfl

theorem rk9nny (R : AV → Prop) (a b c : List UInt8) (_K : AM → Prop) : Obl P 8 (fun v _ => R v) 0 _K [.run 129, .know 50 false, .run 6, .know 56 false, .run 6, .know 61 true, .run 6, .done] ((startM P 8 [.agg [.int .i64 9, .str a, .str b, .str c]] GW)) = ((decide ((↑a.length : Int) > (64 : Int)) = false) ∧ (decide ((↑b.length : Int) > (200 : Int)) = false) ∧ (decide ((↑c.length : Int) > (5000 : Int)) = true) ∧ (R (.int .i64 3))) := by kernel_rfl

theorem rk9nnn (R : AV → Prop) (a b c : List UInt8) (_K : AM → Prop) : Obl P 8 (fun v _ => R v) 0 _K [.run 129, .know 50 false, .run 6, .know 56 false, .run 6, .know 61 false, .run 7, .done] ((startM P 8 [.agg [.int .i64 9, .str a, .str b, .str c]] GW)) = ((decide ((↑a.length : Int) > (64 : Int)) = false) ∧ (decide ((↑b.length : Int) > (200 : Int)) = false) ∧ (decide ((↑c.length : Int) > (5000 : Int)) = false) ∧ (R (.int .i64 0))) := by kernel_rfl

theorem rk9_ok (a b c : List UInt8) : Goal P 0 8 (fun v _ => v = .int .i64 (chkL 64 200 5000 a b c)) (startM P 8 [.agg [.int .i64 9, .str a, .str b, .str c]] GW) := by
  cases h0 : (decide ((↑a.length : Int) > (64 : Int))) with
  | true =>
    have g0 := of_decide_eq_true h0; exact Obl.goal (K := fun _ => False) mix (fun _ h => h.elim) (cast (rk9y _ a b c _).symm ⟨h0, congrArg (AV.int .i64) (chk3 (by omega) (by omega)).symm⟩)
  | false =>
    cases h1 : (decide ((↑b.length : Int) > (200 : Int))) with
    | true =>
      have g0 := of_decide_eq_false h0; have g1 := of_decide_eq_true h1; exact Obl.goal (K := fun _ => False) mix (fun _ h => h.elim) (cast (rk9ny _ a b c _).symm ⟨h0, h1, congrArg (AV.int .i64) (chk3 (by omega) (by omega)).symm⟩)
    | false =>
      cases h2 : (decide ((↑c.length : Int) > (5000 : Int))) with
      | true =>
        have g0 := of_decide_eq_false h0; have g1 := of_decide_eq_false h1; have g2 := of_decide_eq_true h2; exact Obl.goal (K := fun _ => False) mix (fun _ h => h.elim) (cast (rk9nny _ a b c _).symm ⟨h0, h1, h2, congrArg (AV.int .i64) (chk3 (by omega) (by omega)).symm⟩)
      | false =>
        have g0 := of_decide_eq_false h0; have g1 := of_decide_eq_false h1; have g2 := of_decide_eq_false h2; exact Obl.goal (K := fun _ => False) mix (fun _ h => h.elim) (cast (rk9nnn _ a b c _).symm ⟨h0, h1, h2, congrArg (AV.int .i64) (chk0 (by omega) (by omega)).symm⟩)

theorem rkky (R : AV → Prop) (k : Int) (a b c : List UInt8) (_K : AM → Prop) : Obl P 8 (fun v _ => R v) 0 _K [.run 12, .know 9 true, .run 11, .done] ((startM P 8 [.agg [.int .i64 k, .str a, .str b, .str c]] GW)) = ((decide (k < (1 : Int)) = true) ∧ (R (.int .i64 2))) := by kernel_rfl

theorem rkkny (R : AV → Prop) (k : Int) (a b c : List UInt8) (_K : AM → Prop) : Obl P 8 (fun v _ => R v) 0 _K [.run 12, .know 9 false, .run 5, .know 13 true, .run 6, .done] ((startM P 8 [.agg [.int .i64 k, .str a, .str b, .str c]] GW)) = ((decide (k < (1 : Int)) = false) ∧ (decide (k > (9 : Int)) = true) ∧ (R (.int .i64 2))) := by kernel_rfl

theorem rk_ok (k : Int) (a b c : List UInt8) : Goal P 0 8 (fun v _ => v = .int .i64 (chk k a b c)) (startM P 8 [.agg [.int .i64 k, .str a, .str b, .str c]] GW) := by
  by_cases h1 : k < 1
  · exact Obl.goal (K := fun _ => False) mix (fun _ h => h.elim) (cast (rkky _ k a b c _).symm ⟨decide_eq_true h1, congrArg (AV.int .i64) (if_pos (.inl h1)).symm⟩)
  by_cases h9 : k > 9
  · exact Obl.goal (K := fun _ => False) mix (fun _ h => h.elim) (cast (rkkny _ k a b c _).symm ⟨decide_eq_false h1, decide_eq_true h9, congrArg (AV.int .i64) (if_pos (.inr h9)).symm⟩)
  have hk : k = 1 ∨ k = 2 ∨ k = 3 ∨ k = 4 ∨ k = 5 ∨ k = 6 ∨ k = 7 ∨ k = 8 ∨ k = 9 := by omega
  rcases hk with rfl | rfl | rfl | rfl | rfl | rfl | rfl | rfl | rfl
  · exact rk1_ok a b c
  · exact rk2_ok a b c
  · exact rk3_ok a b c
  · exact rk4_ok a b c
  · exact rk5_ok a b c
  · exact rk6_ok a b c
  · exact rk7_ok a b c
  · exact rk8_ok a b c
  · exact rk9_ok a b c
end Go.Proofs.YtclfckjhillfpaaDoor.mq
