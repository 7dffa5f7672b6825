/- May a request be: the program. -/
import Derived.Test.YtclfckjhillfpaaDoorMaC
set_option maxRecDepth 100000
set_option linter.unusedVariables false
namespace Go.Proofs.YtclfckjhillfpaaDoor.mq
open Go Ev

theorem ck6yyy (R : AV → Prop) (a b c : List UInt8) (_K : AM → Prop) : Obl P 7 (fun v _ => R v) 0 _K [.run 248, .know 7 true, .run 49, .know 7 true, .run 49, .know 7 true, .run 34, .done] ((startM P 7 [.agg [.int .i64 6, .str a, .str b, .str c]] GW)) = (((!a == ([] : List UInt8)) = true) ∧ ((!b == ([] : List UInt8)) = true) ∧ ((!c == ([] : List UInt8)) = true) ∧ (R (.int .i64 2))) := by kernel_rfl

theorem ck6yyny (R : AV → Prop) (a b c : List UInt8) (_K : AM → Prop) : Obl P 7 (fun v _ => R v) 0 _K [.run 248, .know 7 true, .run 49, .know 7 true, .run 49, .know 7 false, .run 133, .know 18 true, .run 26, .done] ((startM P 7 [.agg [.int .i64 6, .str a, .str b, .str c]] GW)) = (((!a == ([] : List UInt8)) = true) ∧ ((!b == ([] : List UInt8)) = true) ∧ ((!c == ([] : List UInt8)) = false) ∧ (decide ((↑a.length : Int) > (64 : Int)) = true) ∧ (R (.int .i64 3))) := by kernel_rfl

theorem ck6yynny (R : AV → Prop) (a b c : List UInt8) (_K : AM → Prop) : Obl P 7 (fun v _ => R v) 0 _K [.run 248, .know 7 true, .run 49, .know 7 true, .run 49, .know 7 false, .run 133, .know 18 false, .run 47, .know 18 true, .run 26, .done] ((startM P 7 [.agg [.int .i64 6, .str a, .str b, .str c]] GW)) = (((!a == ([] : List UInt8)) = true) ∧ ((!b == ([] : List UInt8)) = true) ∧ ((!c == ([] : List UInt8)) = false) ∧ (decide ((↑a.length : Int) > (64 : Int)) = false) ∧ (decide ((↑b.length : Int) > (200 : Int)) = true) ∧ (R (.int .i64 3))) := by kernel_rfl

theorem ck6yynnny (R : AV → Prop) (a b c : List UInt8) (_K : AM → Prop) : Obl P 7 (fun v _ => R v) 0 _K [.run 248, .know 7 true, .run 49, .know 7 true, .run 49, .know 7 false, .run 133, .know 18 false, .run 47, .know 18 false, .run 47, .know 18 true, .run 26, .done] ((startM P 7 [.agg [.int .i64 6, .str a, .str b, .str c]] GW)) = (((!a == ([] : List UInt8)) = true) ∧ ((!b == ([] : List UInt8)) = true) ∧ ((!c == ([] : List UInt8)) = false) ∧ (decide ((↑a.length : Int) > (64 : Int)) = false) ∧ (decide ((↑b.length : Int) > (200 : Int)) = false) ∧ (decide ((↑c.length : Int) > (0 : Int)) = true) ∧ (R (.int .i64 3))) := by kernel_rfl

theorem ck6yynnnn (R : AV → Prop) (a b c : List UInt8) (_K : AM → Prop) : Obl P 7 (fun v _ => R v) 0 _K [.run 248, .know 7 true, .run 49, .know 7 true, .run 49, .know 7 false, .run 133, .know 18 false, .run 47, .know 18 false, .run 47, .know 18 false, .run 52, .done] ((startM P 7 [.agg [.int .i64 6, .str a, .str b, .str c]] GW)) = (((!a == ([] : List UInt8)) = true) ∧ ((!b == ([] : List UInt8)) = true) ∧ ((!c == ([] : List UInt8)) = false) ∧ (decide ((↑a.length : Int) > (64 : Int)) = false) ∧ (decide ((↑b.length : Int) > (200 : Int)) = false) ∧ (decide ((↑c.length : Int) > (0 : Int)) = false) ∧ (R (.int .i64 0))) := by kernel_rfl

theorem ck6yny (R : AV → Prop) (a b c : List UInt8) (_K : AM → Prop) : Obl P 7 (fun v _ => R v) 0 _K [.run 248, .know 7 true, .run 49, .know 7 false, .run 49, .know 7 true, .run 34, .done] ((startM P 7 [.agg [.int .i64 6, .str a, .str b, .str c]] GW)) = (((!a == ([] : List UInt8)) = true) ∧ ((!b == ([] : List UInt8)) = false) ∧ ((!c == ([] : List UInt8)) = true) ∧ (R (.int .i64 2))) := by kernel_rfl

theorem ck6ynny (R : AV → Prop) (a b c : List UInt8) (_K : AM → Prop) : Obl P 7 (fun v _ => R v) 0 _K [.run 248, .know 7 true, .run 49, .know 7 false, .run 49, .know 7 false, .run 133, .know 18 true, .run 26, .done] ((startM P 7 [.agg [.int .i64 6, .str a, .str b, .str c]] GW)) = (((!a == ([] : List UInt8)) = true) ∧ ((!b == ([] : List UInt8)) = false) ∧ ((!c == ([] : List UInt8)) = false) ∧ (decide ((↑a.length : Int) > (64 : Int)) = true) ∧ (R (.int .i64 3))) := by kernel_rfl

theorem ck6ynnny (R : AV → Prop) (a b c : List UInt8) (_K : AM → Prop) : Obl P 7 (fun v _ => R v) 0 _K [.run 248, .know 7 true, .run 49, .know 7 false, .run 49, .know 7 false, .run 133, .know 18 false, .run 47, .know 18 true, .run 26, .done] ((startM P 7 [.agg [.int .i64 6, .str a, .str b, .str c]] GW)) = (((!a == ([] : List UInt8)) = true) ∧ ((!b == ([] : List UInt8)) = false) ∧ ((!c == ([] : List UInt8)) = false) ∧ (decide ((↑a.length : Int) > (64 : Int)) = false) ∧ (decide ((↑b.length : Int) > (200 : Int)) = true) ∧ (R (.int .i64 3))) := by kernel_rfl

theorem ck6ynnnny (R : AV → Prop) (a b c : List UInt8) (_K : AM → Prop) : Obl P 7 (fun v _ => R v) 0 _K [.run 248, .know 7 true, .run 49, .know 7 false, .run 49, .know 7 false, .run 133, .know 18 false, .run 47, .know 18 false, .run 47, .know 18 true, .run 26, .done] ((startM P 7 [.agg [.int .i64 6, .str a, .str b, .str c]] GW)) = (((!a == ([] : List UInt8)) = true) ∧ ((!b == ([] : List UInt8)) = false) ∧ ((!c == ([] : List UInt8)) = false) ∧ (decide ((↑a.length : Int) > (64 : Int)) = false) ∧ (decide ((↑b.length : Int) > (200 : Int)) = false) ∧ (decide ((↑c.length : Int) > (0 : Int)) = true) ∧ (R (.int .i64 3))) := by kernel_rfl

theorem ck6ynnnnn (R : AV → Prop) (a b c : List UInt8) (_K : AM → Prop) : Obl P 7 (fun v _ => R v) 0 _K [.run 248, .know 7 true, .run 49, .know 7 false, .run 49, .know 7 false, .run 133, .know 18 false, .run 47, .know 18 false, .run 47, .know 18 false, .run 52, .done] ((startM P 7 [.agg [.int .i64 6, .str a, .str b, .str c]] GW)) = (((!a == ([] : List UInt8)) = true) ∧ ((!b == ([] : List UInt8)) = false) ∧ ((!c == ([] : List UInt8)) = false) ∧ (decide ((↑a.length : Int) > (64 : Int)) = false) ∧ (decide ((↑b.length : Int) > (200 : Int)) = false) ∧ (decide ((↑c.length : Int) > (0 : Int)) = false) ∧ (R (.int .i64 0))) := by kernel_rfl

theorem ck6nyy (R : AV → Prop) (a b c : List UInt8) (_K : AM → Prop) : Obl P 7 (fun v _ => R v) 0 _K [.run 248, .know 7 false, .run 49, .know 7 true, .run 49, .know 7 true, .run 34, .done] ((startM P 7 [.agg [.int .i64 6, .str a, .str b, .str c]] GW)) = (((!a == ([] : List UInt8)) = false) ∧ ((!b == ([] : List UInt8)) = true) ∧ ((!c == ([] : List UInt8)) = true) ∧ (R (.int .i64 2))) := by kernel_rfl

theorem ck6nyny (R : AV → Prop) (a b c : List UInt8) (_K : AM → Prop) : Obl P 7 (fun v _ => R v) 0 _K [.run 248, .know 7 false, .run 49, .know 7 true, .run 49, .know 7 false, .run 133, .know 18 true, .run 26, .done] ((startM P 7 [.agg [.int .i64 6, .str a, .str b, .str c]] GW)) = (((!a == ([] : List UInt8)) = false) ∧ ((!b == ([] : List UInt8)) = true) ∧ ((!c == ([] : List UInt8)) = false) ∧ (decide ((↑a.length : Int) > (64 : Int)) = true) ∧ (R (.int .i64 3))) := by kernel_rfl

theorem ck6nynny (R : AV → Prop) (a b c : List UInt8) (_K : AM → Prop) : Obl P 7 (fun v _ => R v) 0 _K [.run 248, .know 7 false, .run 49, .know 7 true, .run 49, .know 7 false, .run 133, .know 18 false, .run 47, .know 18 true, .run 26, .done] ((startM P 7 [.agg [.int .i64 6, .str a, .str b, .str c]] GW)) = (((!a == ([] : List UInt8)) = false) ∧ ((!b == ([] : List UInt8)) = true) ∧ ((!c == ([] : List UInt8)) = false) ∧ (decide ((↑a.length : Int) > (64 : Int)) = false) ∧ (decide ((↑b.length : Int) > (200 : Int)) = true) ∧ (R (.int .i64 3))) := by kernel_rfl

theorem ck6nynnny (R : AV → Prop) (a b c : List UInt8) (_K : AM → Prop) : Obl P 7 (fun v _ => R v) 0 _K [.run 248, .know 7 false, .run 49, .know 7 true, .run 49, .know 7 false, .run 133, .know 18 false, .run 47, .know 18 false, .run 47, .know 18 true, .run 26, .done] ((startM P 7 [.agg [.int .i64 6, .str a, .str b, .str c]] GW)) = (((!a == ([] : List UInt8)) = false) ∧ ((!b == ([] : List UInt8)) = true) ∧ ((!c == ([] : List UInt8)) = false) ∧ (decide ((↑a.length : Int) > (64 : Int)) = false) ∧ (decide ((↑b.length : Int) > (200 : Int)) = false) ∧ (decide ((↑c.length : Int) > (0 : Int)) = true) ∧ (R (.int .i64 3))) := by kernel_rfl

theorem ck6nynnnn (R : AV → Prop) (a b c : List UInt8) (_K : AM → Prop) : Obl P 7 (fun v _ => R v) 0 _K [.run 248, .know 7 false, .run 49, .know 7 true, .run 49, .know 7 false, .run 133, .know 18 false, .run 47, .know 18 false, .run 47, .know 18 false, .run 52, .done] ((startM P 7 [.agg [.int .i64 6, .str a, .str b, .str c]] GW)) = (((!a == ([] : List UInt8)) = false) ∧ ((!b == ([] : List UInt8)) = true) ∧ ((!c == ([] : List UInt8)) = false) ∧ (decide ((↑a.length : Int) > (64 : Int)) = false) ∧ (decide ((↑b.length : Int) > (200 : Int)) = false) ∧ (decide ((↑c.length : Int) > (0 : Int)) = false) ∧ (R (.int .i64 0))) := by kernel_rfl

theorem ck6nny (R : AV → Prop) (a b c : List UInt8) (_K : AM → Prop) : Obl P 7 (fun v _ => R v) 0 _K [.run 248, .know 7 false, .run 49, .know 7 false, .run 49, .know 7 true, .run 34, .done] ((startM P 7 [.agg [.int .i64 6, .str a, .str b, .str c]] GW)) = (((!a == ([] : List UInt8)) = false) ∧ ((!b == ([] : List UInt8)) = false) ∧ ((!c == ([] : List UInt8)) = true) ∧ (R (.int .i64 2))) := by kernel_rfl

theorem ck6nnny (R : AV → Prop) (a b c : List UInt8) (_K : AM → Prop) : Obl P 7 (fun v _ => R v) 0 _K [.run 248, .know 7 false, .run 49, .know 7 false, .run 49, .know 7 false, .run 133, .know 18 true, .run 26, .done] ((startM P 7 [.agg [.int .i64 6, .str a, .str b, .str c]] GW)) = (((!a == ([] : List UInt8)) = false) ∧ ((!b == ([] : List UInt8)) = false) ∧ ((!c == ([] : List UInt8)) = false) ∧ (decide ((↑a.length : Int) > (64 : Int)) = true) ∧ (R (.int .i64 3))) := by kernel_rfl

theorem ck6nnnny (R : AV → Prop) (a b c : List UInt8) (_K : AM → Prop) : Obl P 7 (fun v _ => R v) 0 _K [.run 248, .know 7 false, .run 49, .know 7 false, .run 49, .know 7 false, .run 133, .know 18 false, .run 47, .know 18 true, .run 26, .done] ((startM P 7 [.agg [.int .i64 6, .str a, .str b, .str c]] GW)) = (((!a == ([] : List UInt8)) = false) ∧ ((!b == ([] : List UInt8)) = false) ∧ ((!c == ([] : List UInt8)) = false) ∧ (decide ((↑a.length : Int) > (64 : Int)) = false) ∧ (decide ((↑b.length : Int) > (200 : Int)) = true) ∧ (R (.int .i64 3))) := by kernel_rfl

theorem ck6nnnnny (R : AV → Prop) (a b c : List UInt8) (_K : AM → Prop) : Obl P 7 (fun v _ => R v) 0 _K [.run 248, .know 7 false, .run 49, .know 7 false, .run 49, .know 7 false, .run 133, .know 18 false, .run 47, .know 18 false, .run 47, .know 18 true, .run 26, .done] ((startM P 7 [.agg [.int .i64 6, .str a, .str b, .str c]] GW)) = (((!a == ([] : List UInt8)) = false) ∧ ((!b == ([] : List UInt8)) = false) ∧ ((!c == ([] : List UInt8)) = false) ∧ (decide ((↑a.length : Int) > (64 : Int)) = false) ∧ (decide ((↑b.length : Int) > (200 : Int)) = false) ∧ (decide ((↑c.length : Int) > (0 : Int)) = true) ∧ (R (.int .i64 3))) := by kernel_rfl

theorem ck6nnnnnn (R : AV → Prop) (a b c : List UInt8) (_K : AM → Prop) : Obl P 7 (fun v _ => R v) 0 _K [.run 248, .know 7 false, .run 49, .know 7 false, .run 49, .know 7 false, .run 133, .know 18 false, .run 47, .know 18 false, .run 47, .know 18 false, .run 52, .done] ((startM P 7 [.agg [.int .i64 6, .str a, .str b, .str c]] GW)) = (((!a == ([] : List UInt8)) = false) ∧ ((!b == ([] : List UInt8)) = false) ∧ ((!c == ([] : List UInt8)) = false) ∧ (decide ((↑a.length : Int) > (64 : Int)) = false) ∧ (decide ((↑b.length : Int) > (200 : Int)) = false) ∧ (decide ((↑c.length : Int) > (0 : Int)) = false) ∧ (R (.int .i64 0))) := by kernel_rfl

theorem ck6_ok (a b c : List UInt8) : Goal P 0 7 (fun v _ => v = .int .i64 (chkL 64 200 0 a b c)) (startM P 7 [.agg [.int .i64 6, .str a, .str b, .str c]] GW) := by
  cases h0 : ((!a == ([] : List UInt8))) with
  | true =>
    cases h1 : ((!b == ([] : List UInt8))) with
    | true =>
      cases h2 : ((!c == ([] : List UInt8))) with
      | true =>
        have g0 := neT h0; have g1 := neT h1; have g2 := neT h2; exact Obl.goal (K := fun _ => False) mix (fun _ h => h.elim) (cast (ck6yyy _ a b c _).symm ⟨h0, h1, h2, congrArg (AV.int .i64) (chk2 (by omega)).symm⟩)
      | false =>
        cases h3 : (decide ((↑a.length : Int) > (64 : Int))) with
        | true =>
          have g0 := neT h0; have g1 := neT h1; have g2 := neF h2; have g3 := of_decide_eq_true h3; exact Obl.goal (K := fun _ => False) mix (fun _ h => h.elim) (cast (ck6yyny _ a b c _).symm ⟨h0, h1, h2, h3, congrArg (AV.int .i64) (chk3 (by omega) (by omega)).symm⟩)
        | false =>
          cases h4 : (decide ((↑b.length : Int) > (200 : Int))) with
          | true =>
            have g0 := neT h0; have g1 := neT h1; have g2 := neF h2; have g3 := of_decide_eq_false h3; have g4 := of_decide_eq_true h4; exact Obl.goal (K := fun _ => False) mix (fun _ h => h.elim) (cast (ck6yynny _ a b c _).symm ⟨h0, h1, h2, h3, h4, congrArg (AV.int .i64) (chk3 (by omega) (by omega)).symm⟩)
          | false =>
            cases h5 : (decide ((↑c.length : Int) > (0 : Int))) with
            | true =>
              have g0 := neT h0; have g1 := neT h1; have g2 := neF h2; have g3 := of_decide_eq_false h3; have g4 := of_decide_eq_false h4; have g5 := of_decide_eq_true h5; exact Obl.goal (K := fun _ => False) mix (fun _ h => h.elim) (cast (ck6yynnny _ a b c _).symm ⟨h0, h1, h2, h3, h4, h5, congrArg (AV.int .i64) (chk3 (by omega) (by omega)).symm⟩)
            | false =>
              have g0 := neT h0; have g1 := neT h1; have g2 := neF h2; have g3 := of_decide_eq_false h3; have g4 := of_decide_eq_false h4; have g5 := of_decide_eq_false h5; exact Obl.goal (K := fun _ => False) mix (fun _ h => h.elim) (cast (ck6yynnnn _ a b c _).symm ⟨h0, h1, h2, h3, h4, h5, congrArg (AV.int .i64) (chk0 (by omega) (by omega)).symm⟩)
    | false =>
      cases h2 : ((!c == ([] : List UInt8))) with
      | true =>
        have g0 := neT h0; have g1 := neF h1; have g2 := neT h2; exact Obl.goal (K := fun _ => False) mix (fun _ h => h.elim) (cast (ck6yny _ a b c _).symm ⟨h0, h1, h2, congrArg (AV.int .i64) (chk2 (by omega)).symm⟩)
      | false =>
        cases h3 : (decide ((↑a.length : Int) > (64 : Int))) with
        | true =>
          have g0 := neT h0; have g1 := neF h1; have g2 := neF h2; have g3 := of_decide_eq_true h3; exact Obl.goal (K := fun _ => False) mix (fun _ h => h.elim) (cast (ck6ynny _ a b c _).symm ⟨h0, h1, h2, h3, congrArg (AV.int .i64) (chk3 (by omega) (by omega)).symm⟩)
        | false =>
          cases h4 : (decide ((↑b.length : Int) > (200 : Int))) with
          | true =>
            have g0 := neT h0; have g1 := neF h1; have g2 := neF h2; have g3 := of_decide_eq_false h3; have g4 := of_decide_eq_true h4; exact Obl.goal (K := fun _ => False) mix (fun _ h => h.elim) (cast (ck6ynnny _ a b c _).symm ⟨h0, h1, h2, h3, h4, congrArg (AV.int .i64) (chk3 (by omega) (by omega)).symm⟩)
          | false =>
            cases h5 : (decide ((↑c.length : Int) > (0 : Int))) with
            | true =>
              have g0 := neT h0; have g1 := neF h1; have g2 := neF h2; have g3 := of_decide_eq_false h3; have g4 := of_decide_eq_false h4; have g5 := of_decide_eq_true h5; exact Obl.goal (K := fun _ => False) mix (fun _ h => h.elim) (cast (ck6ynnnny _ a b c _).symm ⟨h0, h1, h2, h3, h4, h5, congrArg (AV.int .i64) (chk3 (by omega) (by omega)).symm⟩)
            | false =>
              have g0 := neT h0; have g1 := neF h1; have g2 := neF h2; have g3 := of_decide_eq_false h3; have g4 := of_decide_eq_false h4; have g5 := of_decide_eq_false h5; exact Obl.goal (K := fun _ => False) mix (fun _ h => h.elim) (cast (ck6ynnnnn _ a b c _).symm ⟨h0, h1, h2, h3, h4, h5, congrArg (AV.int .i64) (chk0 (by omega) (by omega)).symm⟩)
  | false =>
    cases h1 : ((!b == ([] : List UInt8))) with
    | true =>
      cases h2 : ((!c == ([] : List UInt8))) with
      | true =>
        have g0 := neF h0; have g1 := neT h1; have g2 := neT h2; exact Obl.goal (K := fun _ => False) mix (fun _ h => h.elim) (cast (ck6nyy _ a b c _).symm ⟨h0, h1, h2, congrArg (AV.int .i64) (chk2 (by omega)).symm⟩)
      | false =>
        cases h3 : (decide ((↑a.length : Int) > (64 : Int))) with
        | true =>
          have g0 := neF h0; have g1 := neT h1; have g2 := neF h2; have g3 := of_decide_eq_true h3; exact Obl.goal (K := fun _ => False) mix (fun _ h => h.elim) (cast (ck6nyny _ a b c _).symm ⟨h0, h1, h2, h3, congrArg (AV.int .i64) (chk3 (by omega) (by omega)).symm⟩)
        | false =>
          cases h4 : (decide ((↑b.length : Int) > (200 : Int))) with
          | true =>
            have g0 := neF h0; have g1 := neT h1; have g2 := neF h2; have g3 := of_decide_eq_false h3; have g4 := of_decide_eq_true h4; exact Obl.goal (K := fun _ => False) mix (fun _ h => h.elim) (cast (ck6nynny _ a b c _).symm ⟨h0, h1, h2, h3, h4, congrArg (AV.int .i64) (chk3 (by omega) (by omega)).symm⟩)
          | false =>
            cases h5 : (decide ((↑c.length : Int) > (0 : Int))) with
            | true =>
              have g0 := neF h0; have g1 := neT h1; have g2 := neF h2; have g3 := of_decide_eq_false h3; have g4 := of_decide_eq_false h4; have g5 := of_decide_eq_true h5; exact Obl.goal (K := fun _ => False) mix (fun _ h => h.elim) (cast (ck6nynnny _ a b c _).symm ⟨h0, h1, h2, h3, h4, h5, congrArg (AV.int .i64) (chk3 (by omega) (by omega)).symm⟩)
            | false =>
              have g0 := neF h0; have g1 := neT h1; have g2 := neF h2; have g3 := of_decide_eq_false h3; have g4 := of_decide_eq_false h4; have g5 := of_decide_eq_false h5; exact Obl.goal (K := fun _ => False) mix (fun _ h => h.elim) (cast (ck6nynnnn _ a b c _).symm ⟨h0, h1, h2, h3, h4, h5, congrArg (AV.int .i64) (chk0 (by omega) (by omega)).symm⟩)
    | false =>
      cases h2 : ((!c == ([] : List UInt8))) with
      | true =>
        have g0 := neF h0; have g1 := neF h1; have g2 := neT h2; exact Obl.goal (K := fun _ => False) mix (fun _ h => h.elim) (cast (ck6nny _ a b c _).symm ⟨h0, h1, h2, congrArg (AV.int .i64) (chk2 (by omega)).symm⟩)
      | false =>
        cases h3 : (decide ((↑a.length : Int) > (64 : Int))) with
        | true =>
          have g0 := neF h0; have g1 := neF h1; have g2 := neF h2; have g3 := of_decide_eq_true h3; exact Obl.goal (K := fun _ => False) mix (fun _ h => h.elim) (cast (ck6nnny _ a b c _).symm ⟨h0, h1, h2, h3, congrArg (AV.int .i64) (chk3 (by omega) (by omega)).symm⟩)
        | false =>
          cases h4 : (decide ((↑b.length : Int) > (200 : Int))) with
          | true =>
            have g0 := neF h0; have g1 := neF h1; have g2 := neF h2; have g3 := of_decide_eq_false h3; have g4 := of_decide_eq_true h4; exact Obl.goal (K := fun _ => False) mix (fun _ h => h.elim) (cast (ck6nnnny _ a b c _).symm ⟨h0, h1, h2, h3, h4, congrArg (AV.int .i64) (chk3 (by omega) (by omega)).symm⟩)
          | false =>
            cases h5 : (decide ((↑c.length : Int) > (0 : Int))) with
            | true =>
              have g0 := neF h0; have g1 := neF h1; have g2 := neF h2; have g3 := of_decide_eq_false h3; have g4 := of_decide_eq_false h4; have g5 := of_decide_eq_true h5; exact Obl.goal (K := fun _ => False) mix (fun _ h => h.elim) (cast (ck6nnnnny _ a b c _).symm ⟨h0, h1, h2, h3, h4, h5, congrArg (AV.int .i64) (chk3 (by omega) (by omega)).symm⟩)
            | false =>
              have g0 := neF h0; have g1 := neF h1; have g2 := neF h2; have g3 := of_decide_eq_false h3; have g4 := of_decide_eq_false h4; have g5 := of_decide_eq_false h5; exact Obl.goal (K := fun _ => False) mix (fun _ h => h.elim) (cast (ck6nnnnnn _ a b c _).symm ⟨h0, h1, h2, h3, h4, h5, congrArg (AV.int .i64) (chk0 (by omega) (by omega)).symm⟩)


theorem ck7yy (R : AV → Prop) (a b c : List UInt8) (_K : AM → Prop) : Obl P 7 (fun v _ => R v) 0 _K [.run 248, .know 7 true, .run 49, .know 7 true, .run 34, .done] ((startM P 7 [.agg [.int .i64 7, .str a, .str b, .str c]] GW)) = (((!a == ([] : List UInt8)) = true) ∧ ((!b == ([] : List UInt8)) = true) ∧ (R (.int .i64 2))) := by kernel_rfl

theorem ck7yny (R : AV → Prop) (a b c : List UInt8) (_K : AM → Prop) : Obl P 7 (fun v _ => R v) 0 _K [.run 248, .know 7 true, .run 49, .know 7 false, .run 49, .know 7 true, .run 34, .done] ((startM P 7 [.agg [.int .i64 7, .str a, .str b, .str c]] GW)) = (((!a == ([] : List UInt8)) = true) ∧ ((!b == ([] : List UInt8)) = false) ∧ ((!c == ([] : List UInt8)) = true) ∧ (R (.int .i64 2))) := by kernel_rfl

theorem ck7ynny (R : AV → Prop) (a b c : List UInt8) (_K : AM → Prop) : Obl P 7 (fun v _ => R v) 0 _K [.run 248, .know 7 true, .run 49, .know 7 false, .run 49, .know 7 false, .run 133, .know 18 true, .run 26, .done] ((startM P 7 [.agg [.int .i64 7, .str a, .str b, .str c]] GW)) = (((!a == ([] : List UInt8)) = true) ∧ ((!b == ([] : List UInt8)) = false) ∧ ((!c == ([] : List UInt8)) = false) ∧ (decide ((↑a.length : Int) > (64 : Int)) = true) ∧ (R (.int .i64 3))) := by kernel_rfl

theorem ck7ynnny (R : AV → Prop) (a b c : List UInt8) (_K : AM → Prop) : Obl P 7 (fun v _ => R v) 0 _K [.run 248, .know 7 true, .run 49, .know 7 false, .run 49, .know 7 false, .run 133, .know 18 false, .run 47, .know 18 true, .run 26, .done] ((startM P 7 [.agg [.int .i64 7, .str a, .str b, .str c]] GW)) = (((!a == ([] : List UInt8)) = true) ∧ ((!b == ([] : List UInt8)) = false) ∧ ((!c == ([] : List UInt8)) = false) ∧ (decide ((↑a.length : Int) > (64 : Int)) = false) ∧ (decide ((↑b.length : Int) > (0 : Int)) = true) ∧ (R (.int .i64 3))) := by kernel_rfl

theorem ck7ynnnny (R : AV → Prop) (a b c : List UInt8) (_K : AM → Prop) : Obl P 7 (fun v _ => R v) 0 _K [.run 248, .know 7 true, .run 49, .know 7 false, .run 49, .know 7 false, .run 133, .know 18 false, .run 47, .know 18 false, .run 47, .know 18 true, .run 26, .done] ((startM P 7 [.agg [.int .i64 7, .str a, .str b, .str c]] GW)) = (((!a == ([] : List UInt8)) = true) ∧ ((!b == ([] : List UInt8)) = false) ∧ ((!c == ([] : List UInt8)) = false) ∧ (decide ((↑a.length : Int) > (64 : Int)) = false) ∧ (decide ((↑b.length : Int) > (0 : Int)) = false) ∧ (decide ((↑c.length : Int) > (0 : Int)) = true) ∧ (R (.int .i64 3))) := by kernel_rfl

theorem ck7ynnnnn (R : AV → Prop) (a b c : List UInt8) (_K : AM → Prop) : Obl P 7 (fun v _ => R v) 0 _K [.run 248, .know 7 true, .run 49, .know 7 false, .run 49, .know 7 false, .run 133, .know 18 false, .run 47, .know 18 false, .run 47, .know 18 false, .run 52, .done] ((startM P 7 [.agg [.int .i64 7, .str a, .str b, .str c]] GW)) = (((!a == ([] : List UInt8)) = true) ∧ ((!b == ([] : List UInt8)) = false) ∧ ((!c == ([] : List UInt8)) = false) ∧ (decide ((↑a.length : Int) > (64 : Int)) = false) ∧ (decide ((↑b.length : Int) > (0 : Int)) = false) ∧ (decide ((↑c.length : Int) > (0 : Int)) = false) ∧ (R (.int .i64 0))) := by kernel_rfl

theorem ck7ny (R : AV → Prop) (a b c : List UInt8) (_K : AM → Prop) : Obl P 7 (fun v _ => R v) 0 _K [.run 248, .know 7 false, .run 49, .know 7 true, .run 34, .done] ((startM P 7 [.agg [.int .i64 7, .str a, .str b, .str c]] GW)) = (((!a == ([] : List UInt8)) = false) ∧ ((!b == ([] : List UInt8)) = true) ∧ (R (.int .i64 2))) := by kernel_rfl

theorem ck7nny (R : AV → Prop) (a b c : List UInt8) (_K : AM → Prop) : Obl P 7 (fun v _ => R v) 0 _K [.run 248, .know 7 false, .run 49, .know 7 false, .run 49, .know 7 true, .run 34, .done] ((startM P 7 [.agg [.int .i64 7, .str a, .str b, .str c]] GW)) = (((!a == ([] : List UInt8)) = false) ∧ ((!b == ([] : List UInt8)) = false) ∧ ((!c == ([] : List UInt8)) = true) ∧ (R (.int .i64 2))) := by kernel_rfl

theorem ck7nnny (R : AV → Prop) (a b c : List UInt8) (_K : AM → Prop) : Obl P 7 (fun v _ => R v) 0 _K [.run 248, .know 7 false, .run 49, .know 7 false, .run 49, .know 7 false, .run 133, .know 18 true, .run 26, .done] ((startM P 7 [.agg [.int .i64 7, .str a, .str b, .str c]] GW)) = (((!a == ([] : List UInt8)) = false) ∧ ((!b == ([] : List UInt8)) = false) ∧ ((!c == ([] : List UInt8)) = false) ∧ (decide ((↑a.length : Int) > (64 : Int)) = true) ∧ (R (.int .i64 3))) := by kernel_rfl

theorem ck7nnnny (R : AV → Prop) (a b c : List UInt8) (_K : AM → Prop) : Obl P 7 (fun v _ => R v) 0 _K [.run 248, .know 7 false, .run 49, .know 7 false, .run 49, .know 7 false, .run 133, .know 18 false, .run 47, .know 18 true, .run 26, .done] ((startM P 7 [.agg [.int .i64 7, .str a, .str b, .str c]] GW)) = (((!a == ([] : List UInt8)) = false) ∧ ((!b == ([] : List UInt8)) = false) ∧ ((!c == ([] : List UInt8)) = false) ∧ (decide ((↑a.length : Int) > (64 : Int)) = false) ∧ (decide ((↑b.length : Int) > (0 : Int)) = true) ∧ (R (.int .i64 3))) := by kernel_rfl

theorem ck7nnnnny (R : AV → Prop) (a b c : List UInt8) (_K : AM → Prop) : Obl P 7 (fun v _ => R v) 0 _K [.run 248, .know 7 false, .run 49, .know 7 false, .run 49, .know 7 false, .run 133, .know 18 false, .run 47, .know 18 false, .run 47, .know 18 true, .run 26, .done] ((startM P 7 [.agg [.int .i64 7, .str a, .str b, .str c]] GW)) = (((!a == ([] : List UInt8)) = false) ∧ ((!b == ([] : List UInt8)) = false) ∧ ((!c == ([] : List UInt8)) = false) ∧ (decide ((↑a.length : Int) > (64 : Int)) = false) ∧ (decide ((↑b.length : Int) > (0 : Int)) = false) ∧ (decide ((↑c.length : Int) > (0 : Int)) = true) ∧ (R (.int .i64 3))) := by kernel_rfl

theorem ck7nnnnnn (R : AV → Prop) (a b c : List UInt8) (_K : AM → Prop) : Obl P 7 (fun v _ => R v) 0 _K [.run 248, .know 7 false, .run 49, .know 7 false, .run 49, .know 7 false, .run 133, .know 18 false, .run 47, .know 18 false, .run 47, .know 18 false, .run 52, .done] ((startM P 7 [.agg [.int .i64 7, .str a, .str b, .str c]] GW)) = (((!a == ([] : List UInt8)) = false) ∧ ((!b == ([] : List UInt8)) = false) ∧ ((!c == ([] : List UInt8)) = false) ∧ (decide ((↑a.length : Int) > (64 : Int)) = false) ∧ (decide ((↑b.length : Int) > (0 : Int)) = false) ∧ (decide ((↑c.length : Int) > (0 : Int)) = false) ∧ (R (.int .i64 0))) := by kernel_rfl

theorem ck7_ok (a b c : List UInt8) : Goal P 0 7 (fun v _ => v = .int .i64 (chkL 64 0 0 a b c)) (startM P 7 [.agg [.int .i64 7, .str a, .str b, .str c]] GW) := by
  cases h0 : ((!a == ([] : List UInt8))) with
  | true =>
    cases h1 : ((!b == ([] : List UInt8))) with
    | true =>
      have g0 := neT h0; have g1 := neT h1; exact Obl.goal (K := fun _ => False) mix (fun _ h => h.elim) (cast (ck7yy _ a b c _).symm ⟨h0, h1, congrArg (AV.int .i64) (chk2 (by omega)).symm⟩)
    | false =>
      cases h2 : ((!c == ([] : List UInt8))) with
      | true =>
        have g0 := neT h0; have g1 := neF h1; have g2 := neT h2; exact Obl.goal (K := fun _ => False) mix (fun _ h => h.elim) (cast (ck7yny _ a b c _).symm ⟨h0, h1, h2, congrArg (AV.int .i64) (chk2 (by omega)).symm⟩)
      | false =>
        cases h3 : (decide ((↑a.length : Int) > (64 : Int))) with
        | true =>
          have g0 := neT h0; have g1 := neF h1; have g2 := neF h2; have g3 := of_decide_eq_true h3; exact Obl.goal (K := fun _ => False) mix (fun _ h => h.elim) (cast (ck7ynny _ a b c _).symm ⟨h0, h1, h2, h3, congrArg (AV.int .i64) (chk3 (by omega) (by omega)).symm⟩)
        | false =>
          cases h4 : (decide ((↑b.length : Int) > (0 : Int))) with
          | true =>
            have g0 := neT h0; have g1 := neF h1; have g2 := neF h2; have g3 := of_decide_eq_false h3; have g4 := of_decide_eq_true h4; exact Obl.goal (K := fun _ => False) mix (fun _ h => h.elim) (cast (ck7ynnny _ a b c _).symm ⟨h0, h1, h2, h3, h4, congrArg (AV.int .i64) (chk3 (by omega) (by omega)).symm⟩)
          | false =>
            cases h5 : (decide ((↑c.length : Int) > (0 : Int))) with
            | true =>
              have g0 := neT h0; have g1 := neF h1; have g2 := neF h2; have g3 := of_decide_eq_false h3; have g4 := of_decide_eq_false h4; have g5 := of_decide_eq_true h5; exact Obl.goal (K := fun _ => False) mix (fun _ h => h.elim) (cast (ck7ynnnny _ a b c _).symm ⟨h0, h1, h2, h3, h4, h5, congrArg (AV.int .i64) (chk3 (by omega) (by omega)).symm⟩)
            | false =>
              have g0 := neT h0; have g1 := neF h1; have g2 := neF h2; have g3 := of_decide_eq_false h3; have g4 := of_decide_eq_false h4; have g5 := of_decide_eq_false h5; exact Obl.goal (K := fun _ => False) mix (fun _ h => h.elim) (cast (ck7ynnnnn _ a b c _).symm ⟨h0, h1, h2, h3, h4, h5, congrArg (AV.int .i64) (chk0 (by omega) (by omega)).symm⟩)
  | false =>
    cases h1 : ((!b == ([] : List UInt8))) with
    | true =>
      have g0 := neF h0; have g1 := neT h1; exact Obl.goal (K := fun _ => False) mix (fun _ h => h.elim) (cast (ck7ny _ a b c _).symm ⟨h0, h1, congrArg (AV.int .i64) (chk2 (by omega)).symm⟩)
    | false =>
      cases h2 : ((!c == ([] : List UInt8))) with
      | true =>
        have g0 := neF h0; have g1 := neF h1; have g2 := neT h2; exact Obl.goal (K := fun _ => False) mix (fun _ h => h.elim) (cast (ck7nny _ a b c _).symm ⟨h0, h1, h2, congrArg (AV.int .i64) (chk2 (by omega)).symm⟩)
      | false =>
        cases h3 : (decide ((↑a.length : Int) > (64 : Int))) with
        | true =>
          have g0 := neF h0; have g1 := neF h1; have g2 := neF h2; have g3 := of_decide_eq_true h3; exact Obl.goal (K := fun _ => False) mix (fun _ h => h.elim) (cast (ck7nnny _ a b c _).symm ⟨h0, h1, h2, h3, congrArg (AV.int .i64) (chk3 (by omega) (by omega)).symm⟩)
        | false =>
          cases h4 : (decide ((↑b.length : Int) > (0 : Int))) with
          | true =>
            have g0 := neF h0; have g1 := neF h1; have g2 := neF h2; have g3 := of_decide_eq_false h3; have g4 := of_decide_eq_true h4; exact Obl.goal (K := fun _ => False) mix (fun _ h => h.elim) (cast (ck7nnnny _ a b c _).symm ⟨h0, h1, h2, h3, h4, congrArg (AV.int .i64) (chk3 (by omega) (by omega)).symm⟩)
          | false =>
            cases h5 : (decide ((↑c.length : Int) > (0 : Int))) with
            | true =>
              have g0 := neF h0; have g1 := neF h1; have g2 := neF h2; have g3 := of_decide_eq_false h3; have g4 := of_decide_eq_false h4; have g5 := of_decide_eq_true h5; exact Obl.goal (K := fun _ => False) mix (fun _ h => h.elim) (cast (ck7nnnnny _ a b c _).symm ⟨h0, h1, h2, h3, h4, h5, congrArg (AV.int .i64) (chk3 (by omega) (by omega)).symm⟩)
            | false =>
              have g0 := neF h0; have g1 := neF h1; have g2 := neF h2; have g3 := of_decide_eq_false h3; have g4 := of_decide_eq_false h4; have g5 := of_decide_eq_false h5; exact Obl.goal (K := fun _ => False) mix (fun _ h => h.elim) (cast (ck7nnnnnn _ a b c _).symm ⟨h0, h1, h2, h3, h4, h5, congrArg (AV.int .i64) (chk0 (by omega) (by omega)).symm⟩)


theorem ck8yy (R : AV → Prop) (a b c : List UInt8) (_K : AM → Prop) : Obl P 7 (fun v _ => R v) 0 _K [.run 248, .know 7 true, .run 49, .know 7 true, .run 34, .done] ((startM P 7 [.agg [.int .i64 8, .str a, .str b, .str c]] GW)) = (((!a == ([] : List UInt8)) = true) ∧ ((!b == ([] : List UInt8)) = true) ∧ (R (.int .i64 2))) := by kernel_rfl

theorem ck8yny (R : AV → Prop) (a b c : List UInt8) (_K : AM → Prop) : Obl P 7 (fun v _ => R v) 0 _K [.run 248, .know 7 true, .run 49, .know 7 false, .run 49, .know 7 true, .run 34, .done] ((startM P 7 [.agg [.int .i64 8, .str a, .str b, .str c]] GW)) = (((!a == ([] : List UInt8)) = true) ∧ ((!b == ([] : List UInt8)) = false) ∧ ((!c == ([] : List UInt8)) = true) ∧ (R (.int .i64 2))) := by kernel_rfl

theorem ck8ynny (R : AV → Prop) (a b c : List UInt8) (_K : AM → Prop) : Obl P 7 (fun v _ => R v) 0 _K [.run 248, .know 7 true, .run 49, .know 7 false, .run 49, .know 7 false, .run 133, .know 18 true, .run 26, .done] ((startM P 7 [.agg [.int .i64 8, .str a, .str b, .str c]] GW)) = (((!a == ([] : List UInt8)) = true) ∧ ((!b == ([] : List UInt8)) = false) ∧ ((!c == ([] : List UInt8)) = false) ∧ (decide ((↑a.length : Int) > (64 : Int)) = true) ∧ (R (.int .i64 3))) := by kernel_rfl

theorem ck8ynnny (R : AV → Prop) (a b c : List UInt8) (_K : AM → Prop) : Obl P 7 (fun v _ => R v) 0 _K [.run 248, .know 7 true, .run 49, .know 7 false, .run 49, .know 7 false, .run 133, .know 18 false, .run 47, .know 18 true, .run 26, .done] ((startM P 7 [.agg [.int .i64 8, .str a, .str b, .str c]] GW)) = (((!a == ([] : List UInt8)) = true) ∧ ((!b == ([] : List UInt8)) = false) ∧ ((!c == ([] : List UInt8)) = false) ∧ (decide ((↑a.length : Int) > (64 : Int)) = false) ∧ (decide ((↑b.length : Int) > (0 : Int)) = true) ∧ (R (.int .i64 3))) := by kernel_rfl

theorem ck8ynnnny (R : AV → Prop) (a b c : List UInt8) (_K : AM → Prop) : Obl P 7 (fun v _ => R v) 0 _K [.run 248, .know 7 true, .run 49, .know 7 false, .run 49, .know 7 false, .run 133, .know 18 false, .run 47, .know 18 false, .run 47, .know 18 true, .run 26, .done] ((startM P 7 [.agg [.int .i64 8, .str a, .str b, .str c]] GW)) = (((!a == ([] : List UInt8)) = true) ∧ ((!b == ([] : List UInt8)) = false) ∧ ((!c == ([] : List UInt8)) = false) ∧ (decide ((↑a.length : Int) > (64 : Int)) = false) ∧ (decide ((↑b.length : Int) > (0 : Int)) = false) ∧ (decide ((↑c.length : Int) > (0 : Int)) = true) ∧ (R (.int .i64 3))) := by kernel_rfl

theorem ck8ynnnnn (R : AV → Prop) (a b c : List UInt8) (_K : AM → Prop) : Obl P 7 (fun v _ => R v) 0 _K [.run 248, .know 7 true, .run 49, .know 7 false, .run 49, .know 7 false, .run 133, .know 18 false, .run 47, .know 18 false, .run 47, .know 18 false, .run 52, .done] ((startM P 7 [.agg [.int .i64 8, .str a, .str b, .str c]] GW)) = (((!a == ([] : List UInt8)) = true) ∧ ((!b == ([] : List UInt8)) = false) ∧ ((!c == ([] : List UInt8)) = false) ∧ (decide ((↑a.length : Int) > (64 : Int)) = false) ∧ (decide ((↑b.length : Int) > (0 : Int)) = false) ∧ (decide ((↑c.length : Int) > (0 : Int)) = false) ∧ (R (.int .i64 0))) := by kernel_rfl

theorem ck8ny (R : AV → Prop) (a b c : List UInt8) (_K : AM → Prop) : Obl P 7 (fun v _ => R v) 0 _K [.run 248, .know 7 false, .run 49, .know 7 true, .run 34, .done] ((startM P 7 [.agg [.int .i64 8, .str a, .str b, .str c]] GW)) = (((!a == ([] : List UInt8)) = false) ∧ ((!b == ([] : List UInt8)) = true) ∧ (R (.int .i64 2))) := by kernel_rfl

theorem ck8nny (R : AV → Prop) (a b c : List UInt8) (_K : AM → Prop) : Obl P 7 (fun v _ => R v) 0 _K [.run 248, .know 7 false, .run 49, .know 7 false, .run 49, .know 7 true, .run 34, .done] ((startM P 7 [.agg [.int .i64 8, .str a, .str b, .str c]] GW)) = (((!a == ([] : List UInt8)) = false) ∧ ((!b == ([] : List UInt8)) = false) ∧ ((!c == ([] : List UInt8)) = true) ∧ (R (.int .i64 2))) := by kernel_rfl

theorem ck8nnny (R : AV → Prop) (a b c : List UInt8) (_K : AM → Prop) : Obl P 7 (fun v _ => R v) 0 _K [.run 248, .know 7 false, .run 49, .know 7 false, .run 49, .know 7 false, .run 133, .know 18 true, .run 26, .done] ((startM P 7 [.agg [.int .i64 8, .str a, .str b, .str c]] GW)) = (((!a == ([] : List UInt8)) = false) ∧ ((!b == ([] : List UInt8)) = false) ∧ ((!c == ([] : List UInt8)) = false) ∧ (decide ((↑a.length : Int) > (64 : Int)) = true) ∧ (R (.int .i64 3))) := by kernel_rfl

theorem ck8nnnny (R : AV → Prop) (a b c : List UInt8) (_K : AM → Prop) : Obl P 7 (fun v _ => R v) 0 _K [.run 248, .know 7 false, .run 49, .know 7 false, .run 49, .know 7 false, .run 133, .know 18 false, .run 47, .know 18 true, .run 26, .done] ((startM P 7 [.agg [.int .i64 8, .str a, .str b, .str c]] GW)) = (((!a == ([] : List UInt8)) = false) ∧ ((!b == ([] : List UInt8)) = false) ∧ ((!c == ([] : List UInt8)) = false) ∧ (decide ((↑a.length : Int) > (64 : Int)) = false) ∧ (decide ((↑b.length : Int) > (0 : Int)) = true) ∧ (R (.int .i64 3))) := by kernel_rfl

theorem ck8nnnnny (R : AV → Prop) (a b c : List UInt8) (_K : AM → Prop) : Obl P 7 (fun v _ => R v) 0 _K [.run 248, .know 7 false, .run 49, .know 7 false, .run 49, .know 7 false, .run 133, .know 18 false, .run 47, .know 18 false, .run 47, .know 18 true, .run 26, .done] ((startM P 7 [.agg [.int .i64 8, .str a, .str b, .str c]] GW)) = (((!a == ([] : List UInt8)) = false) ∧ ((!b == ([] : List UInt8)) = false) ∧ ((!c == ([] : List UInt8)) = false) ∧ (decide ((↑a.length : Int) > (64 : Int)) = false) ∧ (decide ((↑b.length : Int) > (0 : Int)) = false) ∧ (decide ((↑c.length : Int) > (0 : Int)) = true) ∧ (R (.int .i64 3))) := by kernel_rfl

theorem ck8nnnnnn (R : AV → Prop) (a b c : List UInt8) (_K : AM → Prop) : Obl P 7 (fun v _ => R v) 0 _K [.run 248, .know 7 false, .run 49, .know 7 false, .run 49, .know 7 false, .run 133, .know 18 false, .run 47, .know 18 false, .run 47, .know 18 false, .run 52, .done] ((startM P 7 [.agg [.int .i64 8, .str a, .str b, .str c]] GW)) = (((!a == ([] : List UInt8)) = false) ∧ ((!b == ([] : List UInt8)) = false) ∧ ((!c == ([] : List UInt8)) = false) ∧ (decide ((↑a.length : Int) > (64 : Int)) = false) ∧ (decide ((↑b.length : Int) > (0 : Int)) = false) ∧ (decide ((↑c.length : Int) > (0 : Int)) = false) ∧ (R (.int .i64 0))) := by kernel_rfl

theorem ck8_ok (a b c : List UInt8) : Goal P 0 7 (fun v _ => v = .int .i64 (chkL 64 0 0 a b c)) (startM P 7 [.agg [.int .i64 8, .str a, .str b, .str c]] GW) := by
  cases h0 : ((!a == ([] : List UInt8))) with
  | true =>
    cases h1 : ((!b == ([] : List UInt8))) with
    | true =>
      have g0 := neT h0; have g1 := neT h1; exact Obl.goal (K := fun _ => False) mix (fun _ h => h.elim) (cast (ck8yy _ a b c _).symm ⟨h0, h1, congrArg (AV.int .i64) (chk2 (by omega)).symm⟩)
    | false =>
      cases h2 : ((!c == ([] : List UInt8))) with
      | true =>
        have g0 := neT h0; have g1 := neF h1; have g2 := neT h2; exact Obl.goal (K := fun _ => False) mix (fun _ h => h.elim) (cast (ck8yny _ a b c _).symm ⟨h0, h1, h2, congrArg (AV.int .i64) (chk2 (by omega)).symm⟩)
      | false =>
        cases h3 : (decide ((↑a.length : Int) > (64 : Int))) with
        | true =>
          have g0 := neT h0; have g1 := neF h1; have g2 := neF h2; have g3 := of_decide_eq_true h3; exact Obl.goal (K := fun _ => False) mix (fun _ h => h.elim) (cast (ck8ynny _ a b c _).symm ⟨h0, h1, h2, h3, congrArg (AV.int .i64) (chk3 (by omega) (by omega)).symm⟩)
        | false =>
          cases h4 : (decide ((↑b.length : Int) > (0 : Int))) with
          | true =>
            have g0 := neT h0; have g1 := neF h1; have g2 := neF h2; have g3 := of_decide_eq_false h3; have g4 := of_decide_eq_true h4; exact Obl.goal (K := fun _ => False) mix (fun _ h => h.elim) (cast (ck8ynnny _ a b c _).symm ⟨h0, h1, h2, h3, h4, congrArg (AV.int .i64) (chk3 (by omega) (by omega)).symm⟩)
          | false =>
            cases h5 : (decide ((↑c.length : Int) > (0 : Int))) with
            | true =>
              have g0 := neT h0; have g1 := neF h1; have g2 := neF h2; have g3 := of_decide_eq_false h3; have g4 := of_decide_eq_false h4; have g5 := of_decide_eq_true h5; exact Obl.goal (K := fun _ => False) mix (fun _ h => h.elim) (cast (ck8ynnnny _ a b c _).symm ⟨h0, h1, h2, h3, h4, h5, congrArg (AV.int .i64) (chk3 (by omega) (by omega)).symm⟩)
            | false =>
              have g0 := neT h0; have g1 := neF h1; have g2 := neF h2; have g3 := of_decide_eq_false h3; have g4 := of_decide_eq_false h4; have g5 := of_decide_eq_false h5; exact Obl.goal (K := fun _ => False) mix (fun _ h => h.elim) (cast (ck8ynnnnn _ a b c _).symm ⟨h0, h1, h2, h3, h4, h5, congrArg (AV.int .i64) (chk0 (by omega) (by omega)).symm⟩)
  | false =>
    cases h1 : ((!b == ([] : List UInt8))) with
    | true =>
      have g0 := neF h0; have g1 := neT h1; exact Obl.goal (K := fun _ => False) mix (fun _ h => h.elim) (cast (ck8ny _ a b c _).symm ⟨h0, h1, congrArg (AV.int .i64) (chk2 (by omega)).symm⟩)
    | false =>
      cases h2 : ((!c == ([] : List UInt8))) with
      | true =>
        have g0 := neF h0; have g1 := neF h1; have g2 := neT h2; exact Obl.goal (K := fun _ => False) mix (fun _ h => h.elim) (cast (ck8nny _ a b c _).symm ⟨h0, h1, h2, congrArg (AV.int .i64) (chk2 (by omega)).symm⟩)
      | false =>
        cases h3 : (decide ((↑a.length : Int) > (64 : Int))) with
        | true =>
          have g0 := neF h0; have g1 := neF h1; have g2 := neF h2; have g3 := of_decide_eq_true h3; exact Obl.goal (K := fun _ => False) mix (fun _ h => h.elim) (cast (ck8nnny _ a b c _).symm ⟨h0, h1, h2, h3, congrArg (AV.int .i64) (chk3 (by omega) (by omega)).symm⟩)
        | false =>
          cases h4 : (decide ((↑b.length : Int) > (0 : Int))) with
          | true =>
            have g0 := neF h0; have g1 := neF h1; have g2 := neF h2; have g3 := of_decide_eq_false h3; have g4 := of_decide_eq_true h4; exact Obl.goal (K := fun _ => False) mix (fun _ h => h.elim) (cast (ck8nnnny _ a b c _).symm ⟨h0, h1, h2, h3, h4, congrArg (AV.int .i64) (chk3 (by omega) (by omega)).symm⟩)
          | false =>
            cases h5 : (decide ((↑c.length : Int) > (0 : Int))) with
            | true =>
              have g0 := neF h0; have g1 := neF h1; have g2 := neF h2; have g3 := of_decide_eq_false h3; have g4 := of_decide_eq_false h4; have g5 := of_decide_eq_true h5; exact Obl.goal (K := fun _ => False) mix (fun _ h => h.elim) (cast (ck8nnnnny _ a b c _).symm ⟨h0, h1, h2, h3, h4, h5, congrArg (AV.int .i64) (chk3 (by omega) (by omega)).symm⟩)
            | false =>
              have g0 := neF h0; have g1 := neF h1; have g2 := neF h2; have g3 := of_decide_eq_false h3; have g4 := of_decide_eq_false h4; have g5 := of_decide_eq_false h5; exact Obl.goal (K := fun _ => False) mix (fun _ h => h.elim) (cast (ck8nnnnnn _ a b c _).symm ⟨h0, h1, h2, h3, h4, h5, congrArg (AV.int .i64) (chk0 (by omega) (by omega)).symm⟩)


theorem ck9yyyy (R : AV → Prop) (a b c : List UInt8) (_K : AM → Prop) : Obl P 7 (fun v _ => R v) 0 _K [.run 248, .know 7 true, .run 49, .know 7 true, .run 49, .know 7 true, .run 133, .know 18 true, .run 26, .done] ((startM P 7 [.agg [.int .i64 9, .str a, .str b, .str c]] GW)) = (((!a == ([] : List UInt8)) = true) ∧ ((!b == ([] : List UInt8)) = true) ∧ ((!c == ([] : List UInt8)) = true) ∧ (decide ((↑a.length : Int) > (64 : Int)) = true) ∧ (R (.int .i64 3))) := by kernel_rfl

theorem ck9yyyny (R : AV → Prop) (a b c : List UInt8) (_K : AM → Prop) : Obl P 7 (fun v _ => R v) 0 _K [.run 248, .know 7 true, .run 49, .know 7 true, .run 49, .know 7 true, .run 133, .know 18 false, .run 47, .know 18 true, .run 26, .done] ((startM P 7 [.agg [.int .i64 9, .str a, .str b, .str c]] GW)) = (((!a == ([] : List UInt8)) = true) ∧ ((!b == ([] : List UInt8)) = true) ∧ ((!c == ([] : List UInt8)) = true) ∧ (decide ((↑a.length : Int) > (64 : Int)) = false) ∧ (decide ((↑b.length : Int) > (200 : Int)) = true) ∧ (R (.int .i64 3))) := by kernel_rfl

theorem ck9yyynny (R : AV → Prop) (a b c : List UInt8) (_K : AM → Prop) : Obl P 7 (fun v _ => R v) 0 _K [.run 248, .know 7 true, .run 49, .know 7 true, .run 49, .know 7 true, .run 133, .know 18 false, .run 47, .know 18 false, .run 47, .know 18 true, .run 26, .done] ((startM P 7 [.agg [.int .i64 9, .str a, .str b, .str c]] GW)) = (((!a == ([] : List UInt8)) = true) ∧ ((!b == ([] : List UInt8)) = true) ∧ ((!c == ([] : List UInt8)) = true) ∧ (decide ((↑a.length : Int) > (64 : Int)) = false) ∧ (decide ((↑b.length : Int) > (200 : Int)) = false) ∧ (decide ((↑c.length : Int) > (5000 : Int)) = true) ∧ (R (.int .i64 3))) := by kernel_rfl

theorem ck9yyynnn (R : AV → Prop) (a b c : List UInt8) (_K : AM → Prop) : Obl P 7 (fun v _ => R v) 0 _K [.run 248, .know 7 true, .run 49, .know 7 true, .run 49, .know 7 true, .run 133, .know 18 false, .run 47, .know 18 false, .run 47, .know 18 false, .run 52, .done] ((startM P 7 [.agg [.int .i64 9, .str a, .str b, .str c]] GW)) = (((!a == ([] : List UInt8)) = true) ∧ ((!b == ([] : List UInt8)) = true) ∧ ((!c == ([] : List UInt8)) = true) ∧ (decide ((↑a.length : Int) > (64 : Int)) = false) ∧ (decide ((↑b.length : Int) > (200 : Int)) = false) ∧ (decide ((↑c.length : Int) > (5000 : Int)) = false) ∧ (R (.int .i64 0))) := by kernel_rfl

theorem ck9yyny (R : AV → Prop) (a b c : List UInt8) (_K : AM → Prop) : Obl P 7 (fun v _ => R v) 0 _K [.run 248, .know 7 true, .run 49, .know 7 true, .run 49, .know 7 false, .run 133, .know 18 true, .run 26, .done] ((startM P 7 [.agg [.int .i64 9, .str a, .str b, .str c]] GW)) = (((!a == ([] : List UInt8)) = true) ∧ ((!b == ([] : List UInt8)) = true) ∧ ((!c == ([] : List UInt8)) = false) ∧ (decide ((↑a.length : Int) > (64 : Int)) = true) ∧ (R (.int .i64 3))) := by kernel_rfl

theorem ck9yynny (R : AV → Prop) (a b c : List UInt8) (_K : AM → Prop) : Obl P 7 (fun v _ => R v) 0 _K [.run 248, .know 7 true, .run 49, .know 7 true, .run 49, .know 7 false, .run 133, .know 18 false, .run 47, .know 18 true, .run 26, .done] ((startM P 7 [.agg [.int .i64 9, .str a, .str b, .str c]] GW)) = (((!a == ([] : List UInt8)) = true) ∧ ((!b == ([] : List UInt8)) = true) ∧ ((!c == ([] : List UInt8)) = false) ∧ (decide ((↑a.length : Int) > (64 : Int)) = false) ∧ (decide ((↑b.length : Int) > (200 : Int)) = true) ∧ (R (.int .i64 3))) := by kernel_rfl

theorem ck9yynnny (R : AV → Prop) (a b c : List UInt8) (_K : AM → Prop) : Obl P 7 (fun v _ => R v) 0 _K [.run 248, .know 7 true, .run 49, .know 7 true, .run 49, .know 7 false, .run 133, .know 18 false, .run 47, .know 18 false, .run 47, .know 18 true, .run 26, .done] ((startM P 7 [.agg [.int .i64 9, .str a, .str b, .str c]] GW)) = (((!a == ([] : List UInt8)) = true) ∧ ((!b == ([] : List UInt8)) = true) ∧ ((!c == ([] : List UInt8)) = false) ∧ (decide ((↑a.length : Int) > (64 : Int)) = false) ∧ (decide ((↑b.length : Int) > (200 : Int)) = false) ∧ (decide ((↑c.length : Int) > (5000 : Int)) = true) ∧ (R (.int .i64 3))) := by kernel_rfl

theorem ck9yynnnn (R : AV → Prop) (a b c : List UInt8) (_K : AM → Prop) : Obl P 7 (fun v _ => R v) 0 _K [.run 248, .know 7 true, .run 49, .know 7 true, .run 49, .know 7 false, .run 133, .know 18 false, .run 47, .know 18 false, .run 47, .know 18 false, .run 52, .done] ((startM P 7 [.agg [.int .i64 9, .str a, .str b, .str c]] GW)) = (((!a == ([] : List UInt8)) = true) ∧ ((!b == ([] : List UInt8)) = true) ∧ ((!c == ([] : List UInt8)) = false) ∧ (decide ((↑a.length : Int) > (64 : Int)) = false) ∧ (decide ((↑b.length : Int) > (200 : Int)) = false) ∧ (decide ((↑c.length : Int) > (5000 : Int)) = false) ∧ (R (.int .i64 0))) := by kernel_rfl

theorem ck9ynyy (R : AV → Prop) (a b c : List UInt8) (_K : AM → Prop) : Obl P 7 (fun v _ => R v) 0 _K [.run 248, .know 7 true, .run 49, .know 7 false, .run 49, .know 7 true, .run 133, .know 18 true, .run 26, .done] ((startM P 7 [.agg [.int .i64 9, .str a, .str b, .str c]] GW)) = (((!a == ([] : List UInt8)) = true) ∧ ((!b == ([] : List UInt8)) = false) ∧ ((!c == ([] : List UInt8)) = true) ∧ (decide ((↑a.length : Int) > (64 : Int)) = true) ∧ (R (.int .i64 3))) := by kernel_rfl

theorem ck9ynyny (R : AV → Prop) (a b c : List UInt8) (_K : AM → Prop) : Obl P 7 (fun v _ => R v) 0 _K [.run 248, .know 7 true, .run 49, .know 7 false, .run 49, .know 7 true, .run 133, .know 18 false, .run 47, .know 18 true, .run 26, .done] ((startM P 7 [.agg [.int .i64 9, .str a, .str b, .str c]] GW)) = (((!a == ([] : List UInt8)) = true) ∧ ((!b == ([] : List UInt8)) = false) ∧ ((!c == ([] : List UInt8)) = true) ∧ (decide ((↑a.length : Int) > (64 : Int)) = false) ∧ (decide ((↑b.length : Int) > (200 : Int)) = true) ∧ (R (.int .i64 3))) := by kernel_rfl

theorem ck9ynynny (R : AV → Prop) (a b c : List UInt8) (_K : AM → Prop) : Obl P 7 (fun v _ => R v) 0 _K [.run 248, .know 7 true, .run 49, .know 7 false, .run 49, .know 7 true, .run 133, .know 18 false, .run 47, .know 18 false, .run 47, .know 18 true, .run 26, .done] ((startM P 7 [.agg [.int .i64 9, .str a, .str b, .str c]] GW)) = (((!a == ([] : List UInt8)) = true) ∧ ((!b == ([] : List UInt8)) = false) ∧ ((!c == ([] : List UInt8)) = true) ∧ (decide ((↑a.length : Int) > (64 : Int)) = false) ∧ (decide ((↑b.length : Int) > (200 : Int)) = false) ∧ (decide ((↑c.length : Int) > (5000 : Int)) = true) ∧ (R (.int .i64 3))) := by kernel_rfl

theorem ck9ynynnn (R : AV → Prop) (a b c : List UInt8) (_K : AM → Prop) : Obl P 7 (fun v _ => R v) 0 _K [.run 248, .know 7 true, .run 49, .know 7 false, .run 49, .know 7 true, .run 133, .know 18 false, .run 47, .know 18 false, .run 47, .know 18 false, .run 52, .done] ((startM P 7 [.agg [.int .i64 9, .str a, .str b, .str c]] GW)) = (((!a == ([] : List UInt8)) = true) ∧ ((!b == ([] : List UInt8)) = false) ∧ ((!c == ([] : List UInt8)) = true) ∧ (decide ((↑a.length : Int) > (64 : Int)) = false) ∧ (decide ((↑b.length : Int) > (200 : Int)) = false) ∧ (decide ((↑c.length : Int) > (5000 : Int)) = false) ∧ (R (.int .i64 0))) := by kernel_rfl

theorem ck9ynny (R : AV → Prop) (a b c : List UInt8) (_K : AM → Prop) : Obl P 7 (fun v _ => R v) 0 _K [.run 248, .know 7 true, .run 49, .know 7 false, .run 49, .know 7 false, .run 133, .know 18 true, .run 26, .done] ((startM P 7 [.agg [.int .i64 9, .str a, .str b, .str c]] GW)) = (((!a == ([] : List UInt8)) = true) ∧ ((!b == ([] : List UInt8)) = false) ∧ ((!c == ([] : List UInt8)) = false) ∧ (decide ((↑a.length : Int) > (64 : Int)) = true) ∧ (R (.int .i64 3))) := by kernel_rfl

theorem ck9ynnny (R : AV → Prop) (a b c : List UInt8) (_K : AM → Prop) : Obl P 7 (fun v _ => R v) 0 _K [.run 248, .know 7 true, .run 49, .know 7 false, .run 49, .know 7 false, .run 133, .know 18 false, .run 47, .know 18 true, .run 26, .done] ((startM P 7 [.agg [.int .i64 9, .str a, .str b, .str c]] GW)) = (((!a == ([] : List UInt8)) = true) ∧ ((!b == ([] : List UInt8)) = false) ∧ ((!c == ([] : List UInt8)) = false) ∧ (decide ((↑a.length : Int) > (64 : Int)) = false) ∧ (decide ((↑b.length : Int) > (200 : Int)) = true) ∧ (R (.int .i64 3))) := by kernel_rfl

theorem ck9ynnnny (R : AV → Prop) (a b c : List UInt8) (_K : AM → Prop) : Obl P 7 (fun v _ => R v) 0 _K [.run 248, .know 7 true, .run 49, .know 7 false, .run 49, .know 7 false, .run 133, .know 18 false, .run 47, .know 18 false, .run 47, .know 18 true, .run 26, .done] ((startM P 7 [.agg [.int .i64 9, .str a, .str b, .str c]] GW)) = (((!a == ([] : List UInt8)) = true) ∧ ((!b == ([] : List UInt8)) = false) ∧ ((!c == ([] : List UInt8)) = false) ∧ (decide ((↑a.length : Int) > (64 : Int)) = false) ∧ (decide ((↑b.length : Int) > (200 : Int)) = false) ∧ (decide ((↑c.length : Int) > (5000 : Int)) = true) ∧ (R (.int .i64 3))) := by kernel_rfl

theorem ck9ynnnnn (R : AV → Prop) (a b c : List UInt8) (_K : AM → Prop) : Obl P 7 (fun v _ => R v) 0 _K [.run 248, .know 7 true, .run 49, .know 7 false, .run 49, .know 7 false, .run 133, .know 18 false, .run 47, .know 18 false, .run 47, .know 18 false, .run 52, .done] ((startM P 7 [.agg [.int .i64 9, .str a, .str b, .str c]] GW)) = (((!a == ([] : List UInt8)) = true) ∧ ((!b == ([] : List UInt8)) = false) ∧ ((!c == ([] : List UInt8)) = false) ∧ (decide ((↑a.length : Int) > (64 : Int)) = false) ∧ (decide ((↑b.length : Int) > (200 : Int)) = false) ∧ (decide ((↑c.length : Int) > (5000 : Int)) = false) ∧ (R (.int .i64 0))) := by kernel_rfl

theorem ck9nyyy (R : AV → Prop) (a b c : List UInt8) (_K : AM → Prop) : Obl P 7 (fun v _ => R v) 0 _K [.run 248, .know 7 false, .run 49, .know 7 true, .run 49, .know 7 true, .run 133, .know 18 true, .run 26, .done] ((startM P 7 [.agg [.int .i64 9, .str a, .str b, .str c]] GW)) = (((!a == ([] : List UInt8)) = false) ∧ ((!b == ([] : List UInt8)) = true) ∧ ((!c == ([] : List UInt8)) = true) ∧ (decide ((↑a.length : Int) > (64 : Int)) = true) ∧ (R (.int .i64 3))) := by kernel_rfl

theorem ck9nyyny (R : AV → Prop) (a b c : List UInt8) (_K : AM → Prop) : Obl P 7 (fun v _ => R v) 0 _K [.run 248, .know 7 false, .run 49, .know 7 true, .run 49, .know 7 true, .run 133, .know 18 false, .run 47, .know 18 true, .run 26, .done] ((startM P 7 [.agg [.int .i64 9, .str a, .str b, .str c]] GW)) = (((!a == ([] : List UInt8)) = false) ∧ ((!b == ([] : List UInt8)) = true) ∧ ((!c == ([] : List UInt8)) = true) ∧ (decide ((↑a.length : Int) > (64 : Int)) = false) ∧ (decide ((↑b.length : Int) > (200 : Int)) = true) ∧ (R (.int .i64 3))) := by kernel_rfl

theorem ck9nyynny (R : AV → Prop) (a b c : List UInt8) (_K : AM → Prop) : Obl P 7 (fun v _ => R v) 0 _K [.run 248, .know 7 false, .run 49, .know 7 true, .run 49, .know 7 true, .run 133, .know 18 false, .run 47, .know 18 false, .run 47, .know 18 true, .run 26, .done] ((startM P 7 [.agg [.int .i64 9, .str a, .str b, .str c]] GW)) = (((!a == ([] : List UInt8)) = false) ∧ ((!b == ([] : List UInt8)) = true) ∧ ((!c == ([] : List UInt8)) = true) ∧ (decide ((↑a.length : Int) > (64 : Int)) = false) ∧ (decide ((↑b.length : Int) > (200 : Int)) = false) ∧ (decide ((↑c.length : Int) > (5000 : Int)) = true) ∧ (R (.int .i64 3))) := by kernel_rfl

theorem ck9nyynnn (R : AV → Prop) (a b c : List UInt8) (_K : AM → Prop) : Obl P 7 (fun v _ => R v) 0 _K [.run 248, .know 7 false, .run 49, .know 7 true, .run 49, .know 7 true, .run 133, .know 18 false, .run 47, .know 18 false, .run 47, .know 18 false, .run 52, .done] ((startM P 7 [.agg [.int .i64 9, .str a, .str b, .str c]] GW)) = (((!a == ([] : List UInt8)) = false) ∧ ((!b == ([] : List UInt8)) = true) ∧ ((!c == ([] : List UInt8)) = true) ∧ (decide ((↑a.length : Int) > (64 : Int)) = false) ∧ (decide ((↑b.length : Int) > (200 : Int)) = false) ∧ (decide ((↑c.length : Int) > (5000 : Int)) = false) ∧ (R (.int .i64 0))) := by kernel_rfl

theorem ck9nyny (R : AV → Prop) (a b c : List UInt8) (_K : AM → Prop) : Obl P 7 (fun v _ => R v) 0 _K [.run 248, .know 7 false, .run 49, .know 7 true, .run 49, .know 7 false, .run 133, .know 18 true, .run 26, .done] ((startM P 7 [.agg [.int .i64 9, .str a, .str b, .str c]] GW)) = (((!a == ([] : List UInt8)) = false) ∧ ((!b == ([] : List UInt8)) = true) ∧ ((!c == ([] : List UInt8)) = false) ∧ (decide ((↑a.length : Int) > (64 : Int)) = true) ∧ (R (.int .i64 3))) := by kernel_rfl

theorem ck9nynny (R : AV → Prop) (a b c : List UInt8) (_K : AM → Prop) : Obl P 7 (fun v _ => R v) 0 _K [.run 248, .know 7 false, .run 49, .know 7 true, .run 49, .know 7 false, .run 133, .know 18 false, .run 47, .know 18 true, .run 26, .done] ((startM P 7 [.agg [.int .i64 9, .str a, .str b, .str c]] GW)) = (((!a == ([] : List UInt8)) = false) ∧ ((!b == ([] : List UInt8)) = true) ∧ ((!c == ([] : List UInt8)) = false) ∧ (decide ((↑a.length : Int) > (64 : Int)) = false) ∧ (decide ((↑b.length : Int) > (200 : Int)) = true) ∧ (R (.int .i64 3))) := by kernel_rfl

theorem ck9nynnny (R : AV → Prop) (a b c : List UInt8) (_K : AM → Prop) : Obl P 7 (fun v _ => R v) 0 _K [.run 248, .know 7 false, .run 49, .know 7 true, .run 49, .know 7 false, .run 133, .know 18 false, .run 47, .know 18 false, .run 47, .know 18 true, .run 26, .done] ((startM P 7 [.agg [.int .i64 9, .str a, .str b, .str c]] GW)) = (((!a == ([] : List UInt8)) = false) ∧ ((!b == ([] : List UInt8)) = true) ∧ ((!c == ([] : List UInt8)) = false) ∧ (decide ((↑a.length : Int) > (64 : Int)) = false) ∧ (decide ((↑b.length : Int) > (200 : Int)) = false) ∧ (decide ((↑c.length : Int) > (5000 : Int)) = true) ∧ (R (.int .i64 3))) := by kernel_rfl

theorem ck9nynnnn (R : AV → Prop) (a b c : List UInt8) (_K : AM → Prop) : Obl P 7 (fun v _ => R v) 0 _K [.run 248, .know 7 false, .run 49, .know 7 true, .run 49, .know 7 false, .run 133, .know 18 false, .run 47, .know 18 false, .run 47, .know 18 false, .run 52, .done] ((startM P 7 [.agg [.int .i64 9, .str a, .str b, .str c]] GW)) = (((!a == ([] : List UInt8)) = false) ∧ ((!b == ([] : List UInt8)) = true) ∧ ((!c == ([] : List UInt8)) = false) ∧ (decide ((↑a.length : Int) > (64 : Int)) = false) ∧ (decide ((↑b.length : Int) > (200 : Int)) = false) ∧ (decide ((↑c.length : Int) > (5000 : Int)) = false) ∧ (R (.int .i64 0))) := by kernel_rfl

theorem ck9nnyy (R : AV → Prop) (a b c : List UInt8) (_K : AM → Prop) : Obl P 7 (fun v _ => R v) 0 _K [.run 248, .know 7 false, .run 49, .know 7 false, .run 49, .know 7 true, .run 133, .know 18 true, .run 26, .done] ((startM P 7 [.agg [.int .i64 9, .str a, .str b, .str c]] GW)) = (((!a == ([] : List UInt8)) = false) ∧ ((!b == ([] : List UInt8)) = false) ∧ ((!c == ([] : List UInt8)) = true) ∧ (decide ((↑a.length : Int) > (64 : Int)) = true) ∧ (R (.int .i64 3))) := by kernel_rfl

theorem ck9nnyny (R : AV → Prop) (a b c : List UInt8) (_K : AM → Prop) : Obl P 7 (fun v _ => R v) 0 _K [.run 248, .know 7 false, .run 49, .know 7 false, .run 49, .know 7 true, .run 133, .know 18 false, .run 47, .know 18 true, .run 26, .done] ((startM P 7 [.agg [.int .i64 9, .str a, .str b, .str c]] GW)) = (((!a == ([] : List UInt8)) = false) ∧ ((!b == ([] : List UInt8)) = false) ∧ ((!c == ([] : List UInt8)) = true) ∧ (decide ((↑a.length : Int) > (64 : Int)) = false) ∧ (decide ((↑b.length : Int) > (200 : Int)) = true) ∧ (R (.int .i64 3))) := by kernel_rfl

theorem ck9nnynny (R : AV → Prop) (a b c : List UInt8) (_K : AM → Prop) : Obl P 7 (fun v _ => R v) 0 _K [.run 248, .know 7 false, .run 49, .know 7 false, .run 49, .know 7 true, .run 133, .know 18 false, .run 47, .know 18 false, .run 47, .know 18 true, .run 26, .done] ((startM P 7 [.agg [.int .i64 9, .str a, .str b, .str c]] GW)) = (((!a == ([] : List UInt8)) = false) ∧ ((!b == ([] : List UInt8)) = false) ∧ ((!c == ([] : List UInt8)) = true) ∧ (decide ((↑a.length : Int) > (64 : Int)) = false) ∧ (decide ((↑b.length : Int) > (200 : Int)) = false) ∧ (decide ((↑c.length : Int) > (5000 : Int)) = true) ∧ (R (.int .i64 3))) := by kernel_rfl

theorem ck9nnynnn (R : AV → Prop) (a b c : List UInt8) (_K : AM → Prop) : Obl P 7 (fun v _ => R v) 0 _K [.run 248, .know 7 false, .run 49, .know 7 false, .run 49, .know 7 true, .run 133, .know 18 false, .run 47, .know 18 false, .run 47, .know 18 false, .run 52, .done] ((startM P 7 [.agg [.int .i64 9, .str a, .str b, .str c]] GW)) = (((!a == ([] : List UInt8)) = false) ∧ ((!b == ([] : List UInt8)) = false) ∧ ((!c == ([] : List UInt8)) = true) ∧ (decide ((↑a.length : Int) > (64 : Int)) = false) ∧ (decide ((↑b.length : Int) > (200 : Int)) = false) ∧ (decide ((↑c.length : Int) > (5000 : Int)) = false) ∧ (R (.int .i64 0))) := by kernel_rfl

theorem ck9nnny (R : AV → Prop) (a b c : List UInt8) (_K : AM → Prop) : Obl P 7 (fun v _ => R v) 0 _K [.run 248, .know 7 false, .run 49, .know 7 false, .run 49, .know 7 false, .run 133, .know 18 true, .run 26, .done] ((startM P 7 [.agg [.int .i64 9, .str a, .str b, .str c]] GW)) = (((!a == ([] : List UInt8)) = false) ∧ ((!b == ([] : List UInt8)) = false) ∧ ((!c == ([] : List UInt8)) = false) ∧ (decide ((↑a.length : Int) > (64 : Int)) = true) ∧ (R (.int .i64 3))) := by kernel_rfl

theorem ck9nnnny (R : AV → Prop) (a b c : List UInt8) (_K : AM → Prop) : Obl P 7 (fun v _ => R v) 0 _K [.run 248, .know 7 false, .run 49, .know 7 false, .run 49, .know 7 false, .run 133, .know 18 false, .run 47, .know 18 true, .run 26, .done] ((startM P 7 [.agg [.int .i64 9, .str a, .str b, .str c]] GW)) = (((!a == ([] : List UInt8)) = false) ∧ ((!b == ([] : List UInt8)) = false) ∧ ((!c == ([] : List UInt8)) = false) ∧ (decide ((↑a.length : Int) > (64 : Int)) = false) ∧ (decide ((↑b.length : Int) > (200 : Int)) = true) ∧ (R (.int .i64 3))) := by kernel_rfl

theorem ck9nnnnny (R : AV → Prop) (a b c : List UInt8) (_K : AM → Prop) : Obl P 7 (fun v _ => R v) 0 _K [.run 248, .know 7 false, .run 49, .know 7 false, .run 49, .know 7 false, .run 133, .know 18 false, .run 47, .know 18 false, .run 47, .know 18 true, .run 26, .done] ((startM P 7 [.agg [.int .i64 9, .str a, .str b, .str c]] GW)) = (((!a == ([] : List UInt8)) = false) ∧ ((!b == ([] : List UInt8)) = false) ∧ ((!c == ([] : List UInt8)) = false) ∧ (decide ((↑a.length : Int) > (64 : Int)) = false) ∧ (decide ((↑b.length : Int) > (200 : Int)) = false) ∧ (decide ((↑c.length : Int) > (5000 : Int)) = true) ∧ (R (.int .i64 3))) := by kernel_rfl

theorem ck9nnnnnn (R : AV → Prop) (a b c : List UInt8) (_K : AM → Prop) : Obl P 7 (fun v _ => R v) 0 _K [.run 248, .know 7 false, .run 49, .know 7 false, .run 49, .know 7 false, .run 133, .know 18 false, .run 47, .know 18 false, .run 47, .know 18 false, .run 52, .done] ((startM P 7 [.agg [.int .i64 9, .str a, .str b, .str c]] GW)) = (((!a == ([] : List UInt8)) = false) ∧ ((!b == ([] : List UInt8)) = false) ∧ ((!c == ([] : List UInt8)) = false) ∧ (decide ((↑a.length : Int) > (64 : Int)) = false) ∧ (decide ((↑b.length : Int) > (200 : Int)) = false) ∧ (decide ((↑c.length : Int) > (5000 : Int)) = false) ∧ (R (.int .i64 0))) := by kernel_rfl

theorem ck9_ok (a b c : List UInt8) : Goal P 0 7 (fun v _ => v = .int .i64 (chkL 64 200 5000 a b c)) (startM P 7 [.agg [.int .i64 9, .str a, .str b, .str c]] GW) := by
  cases h0 : ((!a == ([] : List UInt8))) with
  | true =>
    cases h1 : ((!b == ([] : List UInt8))) with
    | true =>
      cases h2 : ((!c == ([] : List UInt8))) with
      | true =>
        cases h3 : (decide ((↑a.length : Int) > (64 : Int))) with
        | true =>
          have g0 := neT h0; have g1 := neT h1; have g2 := neT h2; have g3 := of_decide_eq_true h3; exact Obl.goal (K := fun _ => False) mix (fun _ h => h.elim) (cast (ck9yyyy _ a b c _).symm ⟨h0, h1, h2, h3, congrArg (AV.int .i64) (chk3 (by omega) (by omega)).symm⟩)
        | false =>
          cases h4 : (decide ((↑b.length : Int) > (200 : Int))) with
          | true =>
            have g0 := neT h0; have g1 := neT h1; have g2 := neT h2; have g3 := of_decide_eq_false h3; have g4 := of_decide_eq_true h4; exact Obl.goal (K := fun _ => False) mix (fun _ h => h.elim) (cast (ck9yyyny _ a b c _).symm ⟨h0, h1, h2, h3, h4, congrArg (AV.int .i64) (chk3 (by omega) (by omega)).symm⟩)
          | false =>
            cases h5 : (decide ((↑c.length : Int) > (5000 : Int))) with
            | true =>
              have g0 := neT h0; have g1 := neT h1; have g2 := neT h2; have g3 := of_decide_eq_false h3; have g4 := of_decide_eq_false h4; have g5 := of_decide_eq_true h5; exact Obl.goal (K := fun _ => False) mix (fun _ h => h.elim) (cast (ck9yyynny _ a b c _).symm ⟨h0, h1, h2, h3, h4, h5, congrArg (AV.int .i64) (chk3 (by omega) (by omega)).symm⟩)
            | false =>
              have g0 := neT h0; have g1 := neT h1; have g2 := neT h2; have g3 := of_decide_eq_false h3; have g4 := of_decide_eq_false h4; have g5 := of_decide_eq_false h5; exact Obl.goal (K := fun _ => False) mix (fun _ h => h.elim) (cast (ck9yyynnn _ a b c _).symm ⟨h0, h1, h2, h3, h4, h5, congrArg (AV.int .i64) (chk0 (by omega) (by omega)).symm⟩)
      | false =>
        cases h3 : (decide ((↑a.length : Int) > (64 : Int))) with
        | true =>
          have g0 := neT h0; have g1 := neT h1; have g2 := neF h2; have g3 := of_decide_eq_true h3; exact Obl.goal (K := fun _ => False) mix (fun _ h => h.elim) (cast (ck9yyny _ a b c _).symm ⟨h0, h1, h2, h3, congrArg (AV.int .i64) (chk3 (by omega) (by omega)).symm⟩)
        | false =>
          cases h4 : (decide ((↑b.length : Int) > (200 : Int))) with
          | true =>
            have g0 := neT h0; have g1 := neT h1; have g2 := neF h2; have g3 := of_decide_eq_false h3; have g4 := of_decide_eq_true h4; exact Obl.goal (K := fun _ => False) mix (fun _ h => h.elim) (cast (ck9yynny _ a b c _).symm ⟨h0, h1, h2, h3, h4, congrArg (AV.int .i64) (chk3 (by omega) (by omega)).symm⟩)
          | false =>
            cases h5 : (decide ((↑c.length : Int) > (5000 : Int))) with
            | true =>
              have g0 := neT h0; have g1 := neT h1; have g2 := neF h2; have g3 := of_decide_eq_false h3; have g4 := of_decide_eq_false h4; have g5 := of_decide_eq_true h5; exact Obl.goal (K := fun _ => False) mix (fun _ h => h.elim) (cast (ck9yynnny _ a b c _).symm ⟨h0, h1, h2, h3, h4, h5, congrArg (AV.int .i64) (chk3 (by omega) (by omega)).symm⟩)
            | false =>
              have g0 := neT h0; have g1 := neT h1; have g2 := neF h2; have g3 := of_decide_eq_false h3; have g4 := of_decide_eq_false h4; have g5 := of_decide_eq_false h5; exact Obl.goal (K := fun _ => False) mix (fun _ h => h.elim) (cast (ck9yynnnn _ a b c _).symm ⟨h0, h1, h2, h3, h4, h5, congrArg (AV.int .i64) (chk0 (by omega) (by omega)).symm⟩)
    | false =>
      cases h2 : ((!c == ([] : List UInt8))) with
      | true =>
        cases h3 : (decide ((↑a.length : Int) > (64 : Int))) with
        | true =>
          have g0 := neT h0; have g1 := neF h1; have g2 := neT h2; have g3 := of_decide_eq_true h3; exact Obl.goal (K := fun _ => False) mix (fun _ h => h.elim) (cast (ck9ynyy _ a b c _).symm ⟨h0, h1, h2, h3, congrArg (AV.int .i64) (chk3 (by omega) (by omega)).symm⟩)
        | false =>
          cases h4 : (decide ((↑b.length : Int) > (200 : Int))) with
          | true =>
            have g0 := neT h0; have g1 := neF h1; have g2 := neT h2; have g3 := of_decide_eq_false h3; have g4 := of_decide_eq_true h4; exact Obl.goal (K := fun _ => False) mix (fun _ h => h.elim) (cast (ck9ynyny _ a b c _).symm ⟨h0, h1, h2, h3, h4, congrArg (AV.int .i64) (chk3 (by omega) (by omega)).symm⟩)
          | false =>
            cases h5 : (decide ((↑c.length : Int) > (5000 : Int))) with
            | true =>
              have g0 := neT h0; have g1 := neF h1; have g2 := neT h2; have g3 := of_decide_eq_false h3; have g4 := of_decide_eq_false h4; have g5 := of_decide_eq_true h5; exact Obl.goal (K := fun _ => False) mix (fun _ h => h.elim) (cast (ck9ynynny _ a b c _).symm ⟨h0, h1, h2, h3, h4, h5, congrArg (AV.int .i64) (chk3 (by omega) (by omega)).symm⟩)
            | false =>
              have g0 := neT h0; have g1 := neF h1; have g2 := neT h2; have g3 := of_decide_eq_false h3; have g4 := of_decide_eq_false h4; have g5 := of_decide_eq_false h5; exact Obl.goal (K := fun _ => False) mix (fun _ h => h.elim) (cast (ck9ynynnn _ a b c _).symm ⟨h0, h1, h2, h3, h4, h5, congrArg (AV.int .i64) (chk0 (by omega) (by omega)).symm⟩)
      | false =>
        cases h3 : (decide ((↑a.length : Int) > (64 : Int))) with
        | true =>
          have g0 := neT h0; have g1 := neF h1; have g2 := neF h2; have g3 := of_decide_eq_true h3; exact Obl.goal (K := fun _ => False) mix (fun _ h => h.elim) (cast (ck9ynny _ a b c _).symm ⟨h0, h1, h2, h3, congrArg (AV.int .i64) (chk3 (by omega) (by omega)).symm⟩)
        | false =>
          cases h4 : (decide ((↑b.length : Int) > (200 : Int))) with
          | true =>
            have g0 := neT h0; have g1 := neF h1; have g2 := neF h2; have g3 := of_decide_eq_false h3; have g4 := of_decide_eq_true h4; exact Obl.goal (K := fun _ => False) mix (fun _ h => h.elim) (cast (ck9ynnny _ a b c _).symm ⟨h0, h1, h2, h3, h4, congrArg (AV.int .i64) (chk3 (by omega) (by omega)).symm⟩)
          | false =>
            cases h5 : (decide ((↑c.length : Int) > (5000 : Int))) with
            | true =>
              have g0 := neT h0; have g1 := neF h1; have g2 := neF h2; have g3 := of_decide_eq_false h3; have g4 := of_decide_eq_false h4; have g5 := of_decide_eq_true h5; exact Obl.goal (K := fun _ => False) mix (fun _ h => h.elim) (cast (ck9ynnnny _ a b c _).symm ⟨h0, h1, h2, h3, h4, h5, congrArg (AV.int .i64) (chk3 (by omega) (by omega)).symm⟩)
            | false =>
              have g0 := neT h0; have g1 := neF h1; have g2 := neF h2; have g3 := of_decide_eq_false h3; have g4 := of_decide_eq_false h4; have g5 := of_decide_eq_false h5; exact Obl.goal (K := fun _ => False) mix (fun _ h => h.elim) (cast (ck9ynnnnn _ a b c _).symm ⟨h0, h1, h2, h3, h4, h5, congrArg (AV.int .i64) (chk0 (by omega) (by omega)).symm⟩)
  | false =>
    cases h1 : ((!b == ([] : List UInt8))) with
    | true =>
      cases h2 : ((!c == ([] : List UInt8))) with
      | true =>
        cases h3 : (decide ((↑a.length : Int) > (64 : Int))) with
        | true =>
          have g0 := neF h0; have g1 := neT h1; have g2 := neT h2; have g3 := of_decide_eq_true h3; exact Obl.goal (K := fun _ => False) mix (fun _ h => h.elim) (cast (ck9nyyy _ a b c _).symm ⟨h0, h1, h2, h3, congrArg (AV.int .i64) (chk3 (by omega) (by omega)).symm⟩)
        | false =>
          cases h4 : (decide ((↑b.length : Int) > (200 : Int))) with
          | true =>
            have g0 := neF h0; have g1 := neT h1; have g2 := neT h2; have g3 := of_decide_eq_false h3; have g4 := of_decide_eq_true h4; exact Obl.goal (K := fun _ => False) mix (fun _ h => h.elim) (cast (ck9nyyny _ a b c _).symm ⟨h0, h1, h2, h3, h4, congrArg (AV.int .i64) (chk3 (by omega) (by omega)).symm⟩)
          | false =>
            cases h5 : (decide ((↑c.length : Int) > (5000 : Int))) with
            | true =>
              have g0 := neF h0; have g1 := neT h1; have g2 := neT h2; have g3 := of_decide_eq_false h3; have g4 := of_decide_eq_false h4; have g5 := of_decide_eq_true h5; exact Obl.goal (K := fun _ => False) mix (fun _ h => h.elim) (cast (ck9nyynny _ a b c _).symm ⟨h0, h1, h2, h3, h4, h5, congrArg (AV.int .i64) (chk3 (by omega) (by omega)).symm⟩)
            | false =>
              have g0 := neF h0; have g1 := neT h1; have g2 := neT h2; have g3 := of_decide_eq_false h3; have g4 := of_decide_eq_false h4; have g5 := of_decide_eq_false h5; exact Obl.goal (K := fun _ => False) mix (fun _ h => h.elim) (cast (ck9nyynnn _ a b c _).symm ⟨h0, h1, h2, h3, h4, h5, congrArg (AV.int .i64) (chk0 (by omega) (by omega)).symm⟩)
      | false =>
        cases h3 : (decide ((↑a.length : Int) > (64 : Int))) with
        | true =>
          have g0 := neF h0; have g1 := neT h1; have g2 := neF h2; have g3 := of_decide_eq_true h3; exact Obl.goal (K := fun _ => False) mix (fun _ h => h.elim) (cast (ck9nyny _ a b c _).symm ⟨h0, h1, h2, h3, congrArg (AV.int .i64) (chk3 (by omega) (by omega)).symm⟩)
        | false =>
          cases h4 : (decide ((↑b.length : Int) > (200 : Int))) with
          | true =>
            have g0 := neF h0; have g1 := neT h1; have g2 := neF h2; have g3 := of_decide_eq_false h3; have g4 := of_decide_eq_true h4; exact Obl.goal (K := fun _ => False) mix (fun _ h => h.elim) (cast (ck9nynny _ a b c _).symm ⟨h0, h1, h2, h3, h4, congrArg (AV.int .i64) (chk3 (by omega) (by omega)).symm⟩)
          | false =>
            cases h5 : (decide ((↑c.length : Int) > (5000 : Int))) with
            | true =>
              have g0 := neF h0; have g1 := neT h1; have g2 := neF h2; have g3 := of_decide_eq_false h3; have g4 := of_decide_eq_false h4; have g5 := of_decide_eq_true h5; exact Obl.goal (K := fun _ => False) mix (fun _ h => h.elim) (cast (ck9nynnny _ a b c _).symm ⟨h0, h1, h2, h3, h4, h5, congrArg (AV.int .i64) (chk3 (by omega) (by omega)).symm⟩)
            | false =>
              have g0 := neF h0; have g1 := neT h1; have g2 := neF h2; have g3 := of_decide_eq_false h3; have g4 := of_decide_eq_false h4; have g5 := of_decide_eq_false h5; exact Obl.goal (K := fun _ => False) mix (fun _ h => h.elim) (cast (ck9nynnnn _ a b c _).symm ⟨h0, h1, h2, h3, h4, h5, congrArg (AV.int .i64) (chk0 (by omega) (by omega)).symm⟩)
    | false =>
      cases h2 : ((!c == ([] : List UInt8))) with
      | true =>
        cases h3 : (decide ((↑a.length : Int) > (64 : Int))) with
        | true =>
          have g0 := neF h0; have g1 := neF h1; have g2 := neT h2; have g3 := of_decide_eq_true h3; exact Obl.goal (K := fun _ => False) mix (fun _ h => h.elim) (cast (ck9nnyy _ a b c _).symm ⟨h0, h1, h2, h3, congrArg (AV.int .i64) (chk3 (by omega) (by omega)).symm⟩)
        | false =>
          cases h4 : (decide ((↑b.length : Int) > (200 : Int))) with
          | true =>
            have g0 := neF h0; have g1 := neF h1; have g2 := neT h2; have g3 := of_decide_eq_false h3; have g4 := of_decide_eq_true h4; exact Obl.goal (K := fun _ => False) mix (fun _ h => h.elim) (cast (ck9nnyny _ a b c _).symm ⟨h0, h1, h2, h3, h4, congrArg (AV.int .i64) (chk3 (by omega) (by omega)).symm⟩)
          | false =>
            cases h5 : (decide ((↑c.length : Int) > (5000 : Int))) with
            | true =>
              have g0 := neF h0; have g1 := neF h1; have g2 := neT h2; have g3 := of_decide_eq_false h3; have g4 := of_decide_eq_false h4; have g5 := of_decide_eq_true h5; exact Obl.goal (K := fun _ => False) mix (fun _ h => h.elim) (cast (ck9nnynny _ a b c _).symm ⟨h0, h1, h2, h3, h4, h5, congrArg (AV.int .i64) (chk3 (by omega) (by omega)).symm⟩)
            | false =>
              have g0 := neF h0; have g1 := neF h1; have g2 := neT h2; have g3 := of_decide_eq_false h3; have g4 := of_decide_eq_false h4; have g5 := of_decide_eq_false h5; exact Obl.goal (K := fun _ => False) mix (fun _ h => h.elim) (cast (ck9nnynnn _ a b c _).symm ⟨h0, h1, h2, h3, h4, h5, congrArg (AV.int .i64) (chk0 (by omega) (by omega)).symm⟩)
      | false =>
        cases h3 : (decide ((↑a.length : Int) > (64 : Int))) with
        | true =>
          have g0 := neF h0; have g1 := neF h1; have g2 := neF h2; have g3 := of_decide_eq_true h3; exact Obl.goal (K := fun _ => False) mix (fun _ h => h.elim) (cast (ck9nnny _ a b c _).symm ⟨h0, h1, h2, h3, congrArg (AV.int .i64) (chk3 (by omega) (by omega)).symm⟩)
        | false =>
          cases h4 : (decide ((↑b.length : Int) > (200 : Int))) with
          | true =>
            have g0 := neF h0; have g1 := neF h1; have g2 := neF h2; have g3 := of_decide_eq_false h3; have g4 := of_decide_eq_true h4; exact Obl.goal (K := fun _ => False) mix (fun _ h => h.elim) (cast (ck9nnnny _ a b c _).symm ⟨h0, h1, h2, h3, h4, congrArg (AV.int .i64) (chk3 (by omega) (by omega)).symm⟩)
          | false =>
            cases h5 : (decide ((↑c.length : Int) > (5000 : Int))) with
            | true =>
              have g0 := neF h0; have g1 := neF h1; have g2 := neF h2; have g3 := of_decide_eq_false h3; have g4 := of_decide_eq_false h4; have g5 := of_decide_eq_true h5; exact Obl.goal (K := fun _ => False) mix (fun _ h => h.elim) (cast (ck9nnnnny _ a b c _).symm ⟨h0, h1, h2, h3, h4, h5, congrArg (AV.int .i64) (chk3 (by omega) (by omega)).symm⟩)
            | false =>
              have g0 := neF h0; have g1 := neF h1; have g2 := neF h2; have g3 := of_decide_eq_false h3; have g4 := of_decide_eq_false h4; have g5 := of_decide_eq_false h5; exact Obl.goal (K := fun _ => False) mix (fun _ h => h.elim) (cast (ck9nnnnnn _ a b c _).symm ⟨h0, h1, h2, h3, h4, h5, congrArg (AV.int .i64) (chk0 (by omega) (by omega)).symm⟩)

theorem ckky (R : AV → Prop) (k : Int) (a b c : List UInt8) (_K : AM → Prop) : Obl P 7 (fun v _ => R v) 0 _K [.run 36, .know 17 true, .run 128, .done] ((startM P 7 [.agg [.int .i64 k, .str a, .str b, .str c]] GW)) = ((decide (k < (1 : Int)) = true) ∧ (R (.int .i64 2))) := by kernel_rfl

theorem ckkny (R : AV → Prop) (k : Int) (a b c : List UInt8) (_K : AM → Prop) : Obl P 7 (fun v _ => R v) 0 _K [.run 36, .know 17 false, .run 4, .know 20 true, .run 124, .done] ((startM P 7 [.agg [.int .i64 k, .str a, .str b, .str c]] GW)) = ((decide (k < (1 : Int)) = false) ∧ (decide (k > (9 : Int)) = true) ∧ (R (.int .i64 2))) := by kernel_rfl

theorem ck_ok (k : Int) (a b c : List UInt8) : Goal P 0 7 (fun v _ => v = .int .i64 (chk k a b c)) (startM P 7 [.agg [.int .i64 k, .str a, .str b, .str c]] GW) := by
  by_cases h1 : k < 1
  · exact Obl.goal (K := fun _ => False) mix (fun _ h => h.elim) (cast (ckky _ k a b c _).symm ⟨decide_eq_true h1, congrArg (AV.int .i64) (if_pos (.inl h1)).symm⟩)
  by_cases h9 : k > 9
  · exact Obl.goal (K := fun _ => False) mix (fun _ h => h.elim) (cast (ckkny _ k a b c _).symm ⟨decide_eq_false h1, decide_eq_true h9, congrArg (AV.int .i64) (if_pos (.inr h9)).symm⟩)
  have hk : k = 1 ∨ k = 2 ∨ k = 3 ∨ k = 4 ∨ k = 5 ∨ k = 6 ∨ k = 7 ∨ k = 8 ∨ k = 9 := by omega
  rcases hk with rfl | rfl | rfl | rfl | rfl | rfl | rfl | rfl | rfl
  · exact ck1_ok a b c
  · exact ck2_ok a b c
  · exact ck3_ok a b c
  · exact ck4_ok a b c
  · exact ck5_ok a b c
  · exact ck6_ok a b c
  · exact ck7_ok a b c
  · exact ck8_ok a b c
  · exact ck9_ok a b c
end Go.Proofs.YtclfckjhillfpaaDoor.mq
