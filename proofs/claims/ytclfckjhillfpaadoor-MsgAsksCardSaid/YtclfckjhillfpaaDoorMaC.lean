/- May a request be: the program. -/
import Derived.Test.YtclfckjhillfpaaDoorMaA
set_option maxRecDepth 100000
set_option linter.unusedVariables false
namespace Go.Proofs.YtclfckjhillfpaaDoor.mq
open Go Ev

theorem ck1y (R : AV → Prop) (a b c : List UInt8) (_K : AM → Prop) : Obl P 7 (fun v _ => R v) 0 _K [.run 248, .know 7 true, .run 34, .done] ((startM P 7 [.agg [.int .i64 1, .str a, .str b, .str c]] GW)) = (((!a == ([] : List UInt8)) = true) ∧ (R (.int .i64 2))) := by kernel_rfl

theorem ck1ny (R : AV → Prop) (a b c : List UInt8) (_K : AM → Prop) : Obl P 7 (fun v _ => R v) 0 _K [.run 248, .know 7 false, .run 49, .know 7 true, .run 34, .done] ((startM P 7 [.agg [.int .i64 1, .str a, .str b, .str c]] GW)) = (((!a == ([] : List UInt8)) = false) ∧ ((!b == ([] : List UInt8)) = true) ∧ (R (.int .i64 2))) := by kernel_rfl

theorem ck1nnyy (R : AV → Prop) (a b c : List UInt8) (_K : AM → Prop) : Obl P 7 (fun v _ => R v) 0 _K [.run 248, .know 7 false, .run 49, .know 7 false, .run 49, .know 7 true, .run 133, .know 18 true, .run 26, .done] ((startM P 7 [.agg [.int .i64 1, .str a, .str b, .str c]] GW)) = (((!a == ([] : List UInt8)) = false) ∧ ((!b == ([] : List UInt8)) = false) ∧ ((!c == ([] : List UInt8)) = true) ∧ (decide ((↑a.length : Int) > (0 : Int)) = true) ∧ (R (.int .i64 3))) := by kernel_rfl

theorem ck1nnyny (R : AV → Prop) (a b c : List UInt8) (_K : AM → Prop) : Obl P 7 (fun v _ => R v) 0 _K [.run 248, .know 7 false, .run 49, .know 7 false, .run 49, .know 7 true, .run 133, .know 18 false, .run 47, .know 18 true, .run 26, .done] ((startM P 7 [.agg [.int .i64 1, .str a, .str b, .str c]] GW)) = (((!a == ([] : List UInt8)) = false) ∧ ((!b == ([] : List UInt8)) = false) ∧ ((!c == ([] : List UInt8)) = true) ∧ (decide ((↑a.length : Int) > (0 : Int)) = false) ∧ (decide ((↑b.length : Int) > (0 : Int)) = true) ∧ (R (.int .i64 3))) := by kernel_rfl

theorem ck1nnynny (R : AV → Prop) (a b c : List UInt8) (_K : AM → Prop) : Obl P 7 (fun v _ => R v) 0 _K [.run 248, .know 7 false, .run 49, .know 7 false, .run 49, .know 7 true, .run 133, .know 18 false, .run 47, .know 18 false, .run 47, .know 18 true, .run 26, .done] ((startM P 7 [.agg [.int .i64 1, .str a, .str b, .str c]] GW)) = (((!a == ([] : List UInt8)) = false) ∧ ((!b == ([] : List UInt8)) = false) ∧ ((!c == ([] : List UInt8)) = true) ∧ (decide ((↑a.length : Int) > (0 : Int)) = false) ∧ (decide ((↑b.length : Int) > (0 : Int)) = false) ∧ (decide ((↑c.length : Int) > (5000 : Int)) = true) ∧ (R (.int .i64 3))) := by kernel_rfl

theorem ck1nnynnn (R : AV → Prop) (a b c : List UInt8) (_K : AM → Prop) : Obl P 7 (fun v _ => R v) 0 _K [.run 248, .know 7 false, .run 49, .know 7 false, .run 49, .know 7 true, .run 133, .know 18 false, .run 47, .know 18 false, .run 47, .know 18 false, .run 52, .done] ((startM P 7 [.agg [.int .i64 1, .str a, .str b, .str c]] GW)) = (((!a == ([] : List UInt8)) = false) ∧ ((!b == ([] : List UInt8)) = false) ∧ ((!c == ([] : List UInt8)) = true) ∧ (decide ((↑a.length : Int) > (0 : Int)) = false) ∧ (decide ((↑b.length : Int) > (0 : Int)) = false) ∧ (decide ((↑c.length : Int) > (5000 : Int)) = false) ∧ (R (.int .i64 0))) := by kernel_rfl

theorem ck1nnny (R : AV → Prop) (a b c : List UInt8) (_K : AM → Prop) : Obl P 7 (fun v _ => R v) 0 _K [.run 248, .know 7 false, .run 49, .know 7 false, .run 49, .know 7 false, .run 133, .know 18 true, .run 26, .done] ((startM P 7 [.agg [.int .i64 1, .str a, .str b, .str c]] GW)) = (((!a == ([] : List UInt8)) = false) ∧ ((!b == ([] : List UInt8)) = false) ∧ ((!c == ([] : List UInt8)) = false) ∧ (decide ((↑a.length : Int) > (0 : Int)) = true) ∧ (R (.int .i64 3))) := by kernel_rfl

theorem ck1nnnny (R : AV → Prop) (a b c : List UInt8) (_K : AM → Prop) : Obl P 7 (fun v _ => R v) 0 _K [.run 248, .know 7 false, .run 49, .know 7 false, .run 49, .know 7 false, .run 133, .know 18 false, .run 47, .know 18 true, .run 26, .done] ((startM P 7 [.agg [.int .i64 1, .str a, .str b, .str c]] GW)) = (((!a == ([] : List UInt8)) = false) ∧ ((!b == ([] : List UInt8)) = false) ∧ ((!c == ([] : List UInt8)) = false) ∧ (decide ((↑a.length : Int) > (0 : Int)) = false) ∧ (decide ((↑b.length : Int) > (0 : Int)) = true) ∧ (R (.int .i64 3))) := by kernel_rfl

theorem ck1nnnnny (R : AV → Prop) (a b c : List UInt8) (_K : AM → Prop) : Obl P 7 (fun v _ => R v) 0 _K [.run 248, .know 7 false, .run 49, .know 7 false, .run 49, .know 7 false, .run 133, .know 18 false, .run 47, .know 18 false, .run 47, .know 18 true, .run 26, .done] ((startM P 7 [.agg [.int .i64 1, .str a, .str b, .str c]] GW)) = (((!a == ([] : List UInt8)) = false) ∧ ((!b == ([] : List UInt8)) = false) ∧ ((!c == ([] : List UInt8)) = false) ∧ (decide ((↑a.length : Int) > (0 : Int)) = false) ∧ (decide ((↑b.length : Int) > (0 : Int)) = false) ∧ (decide ((↑c.length : Int) > (5000 : Int)) = true) ∧ (R (.int .i64 3))) := by kernel_rfl

theorem ck1nnnnnn (R : AV → Prop) (a b c : List UInt8) (_K : AM → Prop) : Obl P 7 (fun v _ => R v) 0 _K [.run 248, .know 7 false, .run 49, .know 7 false, .run 49, .know 7 false, .run 133, .know 18 false, .run 47, .know 18 false, .run 47, .know 18 false, .run 52, .done] ((startM P 7 [.agg [.int .i64 1, .str a, .str b, .str c]] GW)) = (((!a == ([] : List UInt8)) = false) ∧ ((!b == ([] : List UInt8)) = false) ∧ ((!c == ([] : List UInt8)) = false) ∧ (decide ((↑a.length : Int) > (0 : Int)) = false) ∧ (decide ((↑b.length : Int) > (0 : Int)) = false) ∧ (decide ((↑c.length : Int) > (5000 : Int)) = false) ∧ (R (.int .i64 0))) := by kernel_rfl

theorem ck1_ok (a b c : List UInt8) : Goal P 0 7 (fun v _ => v = .int .i64 (chkL 0 0 5000 a b c)) (startM P 7 [.agg [.int .i64 1, .str a, .str b, .str c]] GW) := by
  cases h0 : ((!a == ([] : List UInt8))) with
  | true =>
    have g0 := neT h0; exact Obl.goal (K := fun _ => False) mix (fun _ h => h.elim) (cast (ck1y _ a b c _).symm ⟨h0, congrArg (AV.int .i64) (chk2 (by omega)).symm⟩)
  | false =>
    cases h1 : ((!b == ([] : List UInt8))) with
    | true =>
      have g0 := neF h0; have g1 := neT h1; exact Obl.goal (K := fun _ => False) mix (fun _ h => h.elim) (cast (ck1ny _ a b c _).symm ⟨h0, h1, congrArg (AV.int .i64) (chk2 (by omega)).symm⟩)
    | false =>
      cases h2 : ((!c == ([] : List UInt8))) with
      | true =>
        cases h3 : (decide ((↑a.length : Int) > (0 : Int))) with
        | true =>
          have g0 := neF h0; have g1 := neF h1; have g2 := neT h2; have g3 := of_decide_eq_true h3; exact Obl.goal (K := fun _ => False) mix (fun _ h => h.elim) (cast (ck1nnyy _ a b c _).symm ⟨h0, h1, h2, h3, congrArg (AV.int .i64) (chk3 (by omega) (by omega)).symm⟩)
        | false =>
          cases h4 : (decide ((↑b.length : Int) > (0 : Int))) with
          | true =>
            have g0 := neF h0; have g1 := neF h1; have g2 := neT h2; have g3 := of_decide_eq_false h3; have g4 := of_decide_eq_true h4; exact Obl.goal (K := fun _ => False) mix (fun _ h => h.elim) (cast (ck1nnyny _ a b c _).symm ⟨h0, h1, h2, h3, h4, congrArg (AV.int .i64) (chk3 (by omega) (by omega)).symm⟩)
          | false =>
            cases h5 : (decide ((↑c.length : Int) > (5000 : Int))) with
            | true =>
              have g0 := neF h0; have g1 := neF h1; have g2 := neT h2; have g3 := of_decide_eq_false h3; have g4 := of_decide_eq_false h4; have g5 := of_decide_eq_true h5; exact Obl.goal (K := fun _ => False) mix (fun _ h => h.elim) (cast (ck1nnynny _ a b c _).symm ⟨h0, h1, h2, h3, h4, h5, congrArg (AV.int .i64) (chk3 (by omega) (by omega)).symm⟩)
            | false =>
              have g0 := neF h0; have g1 := neF h1; have g2 := neT h2; have g3 := of_decide_eq_false h3; have g4 := of_decide_eq_false h4; have g5 := of_decide_eq_false h5; exact Obl.goal (K := fun _ => False) mix (fun _ h => h.elim) (cast (ck1nnynnn _ a b c _).symm ⟨h0, h1, h2, h3, h4, h5, congrArg (AV.int .i64) (chk0 (by omega) (by omega)).symm⟩)
      | false =>
        cases h3 : (decide ((↑a.length : Int) > (0 : Int))) with
        | true =>
          have g0 := neF h0; have g1 := neF h1; have g2 := neF h2; have g3 := of_decide_eq_true h3; exact Obl.goal (K := fun _ => False) mix (fun _ h => h.elim) (cast (ck1nnny _ a b c _).symm ⟨h0, h1, h2, h3, congrArg (AV.int .i64) (chk3 (by omega) (by omega)).symm⟩)
        | false =>
          cases h4 : (decide ((↑b.length : Int) > (0 : Int))) with
          | true =>
            have g0 := neF h0; have g1 := neF h1; have g2 := neF h2; have g3 := of_decide_eq_false h3; have g4 := of_decide_eq_true h4; exact Obl.goal (K := fun _ => False) mix (fun _ h => h.elim) (cast (ck1nnnny _ a b c _).symm ⟨h0, h1, h2, h3, h4, congrArg (AV.int .i64) (chk3 (by omega) (by omega)).symm⟩)
          | false =>
            cases h5 : (decide ((↑c.length : Int) > (5000 : Int))) with
            | true =>
              have g0 := neF h0; have g1 := neF h1; have g2 := neF h2; have g3 := of_decide_eq_false h3; have g4 := of_decide_eq_false h4; have g5 := of_decide_eq_true h5; exact Obl.goal (K := fun _ => False) mix (fun _ h => h.elim) (cast (ck1nnnnny _ a b c _).symm ⟨h0, h1, h2, h3, h4, h5, congrArg (AV.int .i64) (chk3 (by omega) (by omega)).symm⟩)
            | false =>
              have g0 := neF h0; have g1 := neF h1; have g2 := neF h2; have g3 := of_decide_eq_false h3; have g4 := of_decide_eq_false h4; have g5 := of_decide_eq_false h5; exact Obl.goal (K := fun _ => False) mix (fun _ h => h.elim) (cast (ck1nnnnnn _ a b c _).symm ⟨h0, h1, h2, h3, h4, h5, congrArg (AV.int .i64) (chk0 (by omega) (by omega)).symm⟩)


theorem ck2yy (R : AV → Prop) (a b c : List UInt8) (_K : AM → Prop) : Obl P 7 (fun v _ => R v) 0 _K [.run 248, .know 7 true, .run 49, .know 7 true, .run 34, .done] ((startM P 7 [.agg [.int .i64 2, .str a, .str b, .str c]] GW)) = (((!a == ([] : List UInt8)) = true) ∧ ((!b == ([] : List UInt8)) = true) ∧ (R (.int .i64 2))) := by kernel_rfl

theorem ck2yny (R : AV → Prop) (a b c : List UInt8) (_K : AM → Prop) : Obl P 7 (fun v _ => R v) 0 _K [.run 248, .know 7 true, .run 49, .know 7 false, .run 49, .know 7 true, .run 34, .done] ((startM P 7 [.agg [.int .i64 2, .str a, .str b, .str c]] GW)) = (((!a == ([] : List UInt8)) = true) ∧ ((!b == ([] : List UInt8)) = false) ∧ ((!c == ([] : List UInt8)) = true) ∧ (R (.int .i64 2))) := by kernel_rfl

theorem ck2ynny (R : AV → Prop) (a b c : List UInt8) (_K : AM → Prop) : Obl P 7 (fun v _ => R v) 0 _K [.run 248, .know 7 true, .run 49, .know 7 false, .run 49, .know 7 false, .run 133, .know 18 true, .run 26, .done] ((startM P 7 [.agg [.int .i64 2, .str a, .str b, .str c]] GW)) = (((!a == ([] : List UInt8)) = true) ∧ ((!b == ([] : List UInt8)) = false) ∧ ((!c == ([] : List UInt8)) = false) ∧ (decide ((↑a.length : Int) > (64 : Int)) = true) ∧ (R (.int .i64 3))) := by kernel_rfl

theorem ck2ynnny (R : AV → Prop) (a b c : List UInt8) (_K : AM → Prop) : Obl P 7 (fun v _ => R v) 0 _K [.run 248, .know 7 true, .run 49, .know 7 false, .run 49, .know 7 false, .run 133, .know 18 false, .run 47, .know 18 true, .run 26, .done] ((startM P 7 [.agg [.int .i64 2, .str a, .str b, .str c]] GW)) = (((!a == ([] : List UInt8)) = true) ∧ ((!b == ([] : List UInt8)) = false) ∧ ((!c == ([] : List UInt8)) = false) ∧ (decide ((↑a.length : Int) > (64 : Int)) = false) ∧ (decide ((↑b.length : Int) > (0 : Int)) = true) ∧ (R (.int .i64 3))) := by kernel_rfl

theorem ck2ynnnny (R : AV → Prop) (a b c : List UInt8) (_K : AM → Prop) : Obl P 7 (fun v _ => R v) 0 _K [.run 248, .know 7 true, .run 49, .know 7 false, .run 49, .know 7 false, .run 133, .know 18 false, .run 47, .know 18 false, .run 47, .know 18 true, .run 26, .done] ((startM P 7 [.agg [.int .i64 2, .str a, .str b, .str c]] GW)) = (((!a == ([] : List UInt8)) = true) ∧ ((!b == ([] : List UInt8)) = false) ∧ ((!c == ([] : List UInt8)) = false) ∧ (decide ((↑a.length : Int) > (64 : Int)) = false) ∧ (decide ((↑b.length : Int) > (0 : Int)) = false) ∧ (decide ((↑c.length : Int) > (0 : Int)) = true) ∧ (R (.int .i64 3))) := by kernel_rfl

theorem ck2ynnnnn (R : AV → Prop) (a b c : List UInt8) (_K : AM → Prop) : Obl P 7 (fun v _ => R v) 0 _K [.run 248, .know 7 true, .run 49, .know 7 false, .run 49, .know 7 false, .run 133, .know 18 false, .run 47, .know 18 false, .run 47, .know 18 false, .run 52, .done] ((startM P 7 [.agg [.int .i64 2, .str a, .str b, .str c]] GW)) = (((!a == ([] : List UInt8)) = true) ∧ ((!b == ([] : List UInt8)) = false) ∧ ((!c == ([] : List UInt8)) = false) ∧ (decide ((↑a.length : Int) > (64 : Int)) = false) ∧ (decide ((↑b.length : Int) > (0 : Int)) = false) ∧ (decide ((↑c.length : Int) > (0 : Int)) = false) ∧ (R (.int .i64 0))) := by kernel_rfl

theorem ck2ny (R : AV → Prop) (a b c : List UInt8) (_K : AM → Prop) : Obl P 7 (fun v _ => R v) 0 _K [.run 248, .know 7 false, .run 49, .know 7 true, .run 34, .done] ((startM P 7 [.agg [.int .i64 2, .str a, .str b, .str c]] GW)) = (((!a == ([] : List UInt8)) = false) ∧ ((!b == ([] : List UInt8)) = true) ∧ (R (.int .i64 2))) := by kernel_rfl

theorem ck2nny (R : AV → Prop) (a b c : List UInt8) (_K : AM → Prop) : Obl P 7 (fun v _ => R v) 0 _K [.run 248, .know 7 false, .run 49, .know 7 false, .run 49, .know 7 true, .run 34, .done] ((startM P 7 [.agg [.int .i64 2, .str a, .str b, .str c]] GW)) = (((!a == ([] : List UInt8)) = false) ∧ ((!b == ([] : List UInt8)) = false) ∧ ((!c == ([] : List UInt8)) = true) ∧ (R (.int .i64 2))) := by kernel_rfl

theorem ck2nnny (R : AV → Prop) (a b c : List UInt8) (_K : AM → Prop) : Obl P 7 (fun v _ => R v) 0 _K [.run 248, .know 7 false, .run 49, .know 7 false, .run 49, .know 7 false, .run 133, .know 18 true, .run 26, .done] ((startM P 7 [.agg [.int .i64 2, .str a, .str b, .str c]] GW)) = (((!a == ([] : List UInt8)) = false) ∧ ((!b == ([] : List UInt8)) = false) ∧ ((!c == ([] : List UInt8)) = false) ∧ (decide ((↑a.length : Int) > (64 : Int)) = true) ∧ (R (.int .i64 3))) := by kernel_rfl

theorem ck2nnnny (R : AV → Prop) (a b c : List UInt8) (_K : AM → Prop) : Obl P 7 (fun v _ => R v) 0 _K [.run 248, .know 7 false, .run 49, .know 7 false, .run 49, .know 7 false, .run 133, .know 18 false, .run 47, .know 18 true, .run 26, .done] ((startM P 7 [.agg [.int .i64 2, .str a, .str b, .str c]] GW)) = (((!a == ([] : List UInt8)) = false) ∧ ((!b == ([] : List UInt8)) = false) ∧ ((!c == ([] : List UInt8)) = false) ∧ (decide ((↑a.length : Int) > (64 : Int)) = false) ∧ (decide ((↑b.length : Int) > (0 : Int)) = true) ∧ (R (.int .i64 3))) := by kernel_rfl

theorem ck2nnnnny (R : AV → Prop) (a b c : List UInt8) (_K : AM → Prop) : Obl P 7 (fun v _ => R v) 0 _K [.run 248, .know 7 false, .run 49, .know 7 false, .run 49, .know 7 false, .run 133, .know 18 false, .run 47, .know 18 false, .run 47, .know 18 true, .run 26, .done] ((startM P 7 [.agg [.int .i64 2, .str a, .str b, .str c]] GW)) = (((!a == ([] : List UInt8)) = false) ∧ ((!b == ([] : List UInt8)) = false) ∧ ((!c == ([] : List UInt8)) = false) ∧ (decide ((↑a.length : Int) > (64 : Int)) = false) ∧ (decide ((↑b.length : Int) > (0 : Int)) = false) ∧ (decide ((↑c.length : Int) > (0 : Int)) = true) ∧ (R (.int .i64 3))) := by kernel_rfl

theorem ck2nnnnnn (R : AV → Prop) (a b c : List UInt8) (_K : AM → Prop) : Obl P 7 (fun v _ => R v) 0 _K [.run 248, .know 7 false, .run 49, .know 7 false, .run 49, .know 7 false, .run 133, .know 18 false, .run 47, .know 18 false, .run 47, .know 18 false, .run 52, .done] ((startM P 7 [.agg [.int .i64 2, .str a, .str b, .str c]] GW)) = (((!a == ([] : List UInt8)) = false) ∧ ((!b == ([] : List UInt8)) = false) ∧ ((!c == ([] : List UInt8)) = false) ∧ (decide ((↑a.length : Int) > (64 : Int)) = false) ∧ (decide ((↑b.length : Int) > (0 : Int)) = false) ∧ (decide ((↑c.length : Int) > (0 : Int)) = false) ∧ (R (.int .i64 0))) := by kernel_rfl

theorem ck2_ok (a b c : List UInt8) : Goal P 0 7 (fun v _ => v = .int .i64 (chkL 64 0 0 a b c)) (startM P 7 [.agg [.int .i64 2, .str a, .str b, .str c]] GW) := by
  cases h0 : ((!a == ([] : List UInt8))) with
  | true =>
    cases h1 : ((!b == ([] : List UInt8))) with
    | true =>
      have g0 := neT h0; have g1 := neT h1; exact Obl.goal (K := fun _ => False) mix (fun _ h => h.elim) (cast (ck2yy _ a b c _).symm ⟨h0, h1, congrArg (AV.int .i64) (chk2 (by omega)).symm⟩)
    | false =>
      cases h2 : ((!c == ([] : List UInt8))) with
      | true =>
        have g0 := neT h0; have g1 := neF h1; have g2 := neT h2; exact Obl.goal (K := fun _ => False) mix (fun _ h => h.elim) (cast (ck2yny _ a b c _).symm ⟨h0, h1, h2, congrArg (AV.int .i64) (chk2 (by omega)).symm⟩)
      | false =>
        cases h3 : (decide ((↑a.length : Int) > (64 : Int))) with
        | true =>
          have g0 := neT h0; have g1 := neF h1; have g2 := neF h2; have g3 := of_decide_eq_true h3; exact Obl.goal (K := fun _ => False) mix (fun _ h => h.elim) (cast (ck2ynny _ a b c _).symm ⟨h0, h1, h2, h3, congrArg (AV.int .i64) (chk3 (by omega) (by omega)).symm⟩)
        | false =>
          cases h4 : (decide ((↑b.length : Int) > (0 : Int))) with
          | true =>
            have g0 := neT h0; have g1 := neF h1; have g2 := neF h2; have g3 := of_decide_eq_false h3; have g4 := of_decide_eq_true h4; exact Obl.goal (K := fun _ => False) mix (fun _ h => h.elim) (cast (ck2ynnny _ a b c _).symm ⟨h0, h1, h2, h3, h4, congrArg (AV.int .i64) (chk3 (by omega) (by omega)).symm⟩)
          | false =>
            cases h5 : (decide ((↑c.length : Int) > (0 : Int))) with
            | true =>
              have g0 := neT h0; have g1 := neF h1; have g2 := neF h2; have g3 := of_decide_eq_false h3; have g4 := of_decide_eq_false h4; have g5 := of_decide_eq_true h5; exact Obl.goal (K := fun _ => False) mix (fun _ h => h.elim) (cast (ck2ynnnny _ a b c _).symm ⟨h0, h1, h2, h3, h4, h5, congrArg (AV.int .i64) (chk3 (by omega) (by omega)).symm⟩)
            | false =>
              have g0 := neT h0; have g1 := neF h1; have g2 := neF h2; have g3 := of_decide_eq_false h3; have g4 := of_decide_eq_false h4; have g5 := of_decide_eq_false h5; exact Obl.goal (K := fun _ => False) mix (fun _ h => h.elim) (cast (ck2ynnnnn _ a b c _).symm ⟨h0, h1, h2, h3, h4, h5, congrArg (AV.int .i64) (chk0 (by omega) (by omega)).symm⟩)
  | false =>
    cases h1 : ((!b == ([] : List UInt8))) with
    | true =>
      have g0 := neF h0; have g1 := neT h1; exact Obl.goal (K := fun _ => False) mix (fun _ h => h.elim) (cast (ck2ny _ a b c _).symm ⟨h0, h1, congrArg (AV.int .i64) (chk2 (by omega)).symm⟩)
    | false =>
      cases h2 : ((!c == ([] : List UInt8))) with
      | true =>
        have g0 := neF h0; have g1 := neF h1; have g2 := neT h2; exact Obl.goal (K := fun _ => False) mix (fun _ h => h.elim) (cast (ck2nny _ a b c _).symm ⟨h0, h1, h2, congrArg (AV.int .i64) (chk2 (by omega)).symm⟩)
      | false =>
        cases h3 : (decide ((↑a.length : Int) > (64 : Int))) with
        | true =>
          have g0 := neF h0; have g1 := neF h1; have g2 := neF h2; have g3 := of_decide_eq_true h3; exact Obl.goal (K := fun _ => False) mix (fun _ h => h.elim) (cast (ck2nnny _ a b c _).symm ⟨h0, h1, h2, h3, congrArg (AV.int .i64) (chk3 (by omega) (by omega)).symm⟩)
        | false =>
          cases h4 : (decide ((↑b.length : Int) > (0 : Int))) with
          | true =>
            have g0 := neF h0; have g1 := neF h1; have g2 := neF h2; have g3 := of_decide_eq_false h3; have g4 := of_decide_eq_true h4; exact Obl.goal (K := fun _ => False) mix (fun _ h => h.elim) (cast (ck2nnnny _ a b c _).symm ⟨h0, h1, h2, h3, h4, congrArg (AV.int .i64) (chk3 (by omega) (by omega)).symm⟩)
          | false =>
            cases h5 : (decide ((↑c.length : Int) > (0 : Int))) with
            | true =>
              have g0 := neF h0; have g1 := neF h1; have g2 := neF h2; have g3 := of_decide_eq_false h3; have g4 := of_decide_eq_false h4; have g5 := of_decide_eq_true h5; exact Obl.goal (K := fun _ => False) mix (fun _ h => h.elim) (cast (ck2nnnnny _ a b c _).symm ⟨h0, h1, h2, h3, h4, h5, congrArg (AV.int .i64) (chk3 (by omega) (by omega)).symm⟩)
            | false =>
              have g0 := neF h0; have g1 := neF h1; have g2 := neF h2; have g3 := of_decide_eq_false h3; have g4 := of_decide_eq_false h4; have g5 := of_decide_eq_false h5; exact Obl.goal (K := fun _ => False) mix (fun _ h => h.elim) (cast (ck2nnnnnn _ a b c _).symm ⟨h0, h1, h2, h3, h4, h5, congrArg (AV.int .i64) (chk0 (by omega) (by omega)).symm⟩)


theorem ck3yyyy (R : AV → Prop) (a b c : List UInt8) (_K : AM → Prop) : Obl P 7 (fun v _ => R v) 0 _K [.run 248, .know 7 true, .run 49, .know 7 true, .run 49, .know 7 true, .run 133, .know 18 true, .run 26, .done] ((startM P 7 [.agg [.int .i64 3, .str a, .str b, .str c]] GW)) = (((!a == ([] : List UInt8)) = true) ∧ ((!b == ([] : List UInt8)) = true) ∧ ((!c == ([] : List UInt8)) = true) ∧ (decide ((↑a.length : Int) > (64 : Int)) = true) ∧ (R (.int .i64 3))) := by kernel_rfl

theorem ck3yyyny (R : AV → Prop) (a b c : List UInt8) (_K : AM → Prop) : Obl P 7 (fun v _ => R v) 0 _K [.run 248, .know 7 true, .run 49, .know 7 true, .run 49, .know 7 true, .run 133, .know 18 false, .run 47, .know 18 true, .run 26, .done] ((startM P 7 [.agg [.int .i64 3, .str a, .str b, .str c]] GW)) = (((!a == ([] : List UInt8)) = true) ∧ ((!b == ([] : List UInt8)) = true) ∧ ((!c == ([] : List UInt8)) = true) ∧ (decide ((↑a.length : Int) > (64 : Int)) = false) ∧ (decide ((↑b.length : Int) > (200 : Int)) = true) ∧ (R (.int .i64 3))) := by kernel_rfl

theorem ck3yyynny (R : AV → Prop) (a b c : List UInt8) (_K : AM → Prop) : Obl P 7 (fun v _ => R v) 0 _K [.run 248, .know 7 true, .run 49, .know 7 true, .run 49, .know 7 true, .run 133, .know 18 false, .run 47, .know 18 false, .run 47, .know 18 true, .run 26, .done] ((startM P 7 [.agg [.int .i64 3, .str a, .str b, .str c]] GW)) = (((!a == ([] : List UInt8)) = true) ∧ ((!b == ([] : List UInt8)) = true) ∧ ((!c == ([] : List UInt8)) = true) ∧ (decide ((↑a.length : Int) > (64 : Int)) = false) ∧ (decide ((↑b.length : Int) > (200 : Int)) = false) ∧ (decide ((↑c.length : Int) > (5000 : Int)) = true) ∧ (R (.int .i64 3))) := by kernel_rfl

theorem ck3yyynnn (R : AV → Prop) (a b c : List UInt8) (_K : AM → Prop) : Obl P 7 (fun v _ => R v) 0 _K [.run 248, .know 7 true, .run 49, .know 7 true, .run 49, .know 7 true, .run 133, .know 18 false, .run 47, .know 18 false, .run 47, .know 18 false, .run 52, .done] ((startM P 7 [.agg [.int .i64 3, .str a, .str b, .str c]] GW)) = (((!a == ([] : List UInt8)) = true) ∧ ((!b == ([] : List UInt8)) = true) ∧ ((!c == ([] : List UInt8)) = true) ∧ (decide ((↑a.length : Int) > (64 : Int)) = false) ∧ (decide ((↑b.length : Int) > (200 : Int)) = false) ∧ (decide ((↑c.length : Int) > (5000 : Int)) = false) ∧ (R (.int .i64 0))) := by kernel_rfl

theorem ck3yyny (R : AV → Prop) (a b c : List UInt8) (_K : AM → Prop) : Obl P 7 (fun v _ => R v) 0 _K [.run 248, .know 7 true, .run 49, .know 7 true, .run 49, .know 7 false, .run 133, .know 18 true, .run 26, .done] ((startM P 7 [.agg [.int .i64 3, .str a, .str b, .str c]] GW)) = (((!a == ([] : List UInt8)) = true) ∧ ((!b == ([] : List UInt8)) = true) ∧ ((!c == ([] : List UInt8)) = false) ∧ (decide ((↑a.length : Int) > (64 : Int)) = true) ∧ (R (.int .i64 3))) := by kernel_rfl

theorem ck3yynny (R : AV → Prop) (a b c : List UInt8) (_K : AM → Prop) : Obl P 7 (fun v _ => R v) 0 _K [.run 248, .know 7 true, .run 49, .know 7 true, .run 49, .know 7 false, .run 133, .know 18 false, .run 47, .know 18 true, .run 26, .done] ((startM P 7 [.agg [.int .i64 3, .str a, .str b, .str c]] GW)) = (((!a == ([] : List UInt8)) = true) ∧ ((!b == ([] : List UInt8)) = true) ∧ ((!c == ([] : List UInt8)) = false) ∧ (decide ((↑a.length : Int) > (64 : Int)) = false) ∧ (decide ((↑b.length : Int) > (200 : Int)) = true) ∧ (R (.int .i64 3))) := by kernel_rfl

theorem ck3yynnny (R : AV → Prop) (a b c : List UInt8) (_K : AM → Prop) : Obl P 7 (fun v _ => R v) 0 _K [.run 248, .know 7 true, .run 49, .know 7 true, .run 49, .know 7 false, .run 133, .know 18 false, .run 47, .know 18 false, .run 47, .know 18 true, .run 26, .done] ((startM P 7 [.agg [.int .i64 3, .str a, .str b, .str c]] GW)) = (((!a == ([] : List UInt8)) = true) ∧ ((!b == ([] : List UInt8)) = true) ∧ ((!c == ([] : List UInt8)) = false) ∧ (decide ((↑a.length : Int) > (64 : Int)) = false) ∧ (decide ((↑b.length : Int) > (200 : Int)) = false) ∧ (decide ((↑c.length : Int) > (5000 : Int)) = true) ∧ (R (.int .i64 3))) := by kernel_rfl

theorem ck3yynnnn (R : AV → Prop) (a b c : List UInt8) (_K : AM → Prop) : Obl P 7 (fun v _ => R v) 0 _K [.run 248, .know 7 true, .run 49, .know 7 true, .run 49, .know 7 false, .run 133, .know 18 false, .run 47, .know 18 false, .run 47, .know 18 false, .run 52, .done] ((startM P 7 [.agg [.int .i64 3, .str a, .str b, .str c]] GW)) = (((!a == ([] : List UInt8)) = true) ∧ ((!b == ([] : List UInt8)) = true) ∧ ((!c == ([] : List UInt8)) = false) ∧ (decide ((↑a.length : Int) > (64 : Int)) = false) ∧ (decide ((↑b.length : Int) > (200 : Int)) = false) ∧ (decide ((↑c.length : Int) > (5000 : Int)) = false) ∧ (R (.int .i64 0))) := by kernel_rfl

theorem ck3ynyy (R : AV → Prop) (a b c : List UInt8) (_K : AM → Prop) : Obl P 7 (fun v _ => R v) 0 _K [.run 248, .know 7 true, .run 49, .know 7 false, .run 49, .know 7 true, .run 133, .know 18 true, .run 26, .done] ((startM P 7 [.agg [.int .i64 3, .str a, .str b, .str c]] GW)) = (((!a == ([] : List UInt8)) = true) ∧ ((!b == ([] : List UInt8)) = false) ∧ ((!c == ([] : List UInt8)) = true) ∧ (decide ((↑a.length : Int) > (64 : Int)) = true) ∧ (R (.int .i64 3))) := by kernel_rfl

theorem ck3ynyny (R : AV → Prop) (a b c : List UInt8) (_K : AM → Prop) : Obl P 7 (fun v _ => R v) 0 _K [.run 248, .know 7 true, .run 49, .know 7 false, .run 49, .know 7 true, .run 133, .know 18 false, .run 47, .know 18 true, .run 26, .done] ((startM P 7 [.agg [.int .i64 3, .str a, .str b, .str c]] GW)) = (((!a == ([] : List UInt8)) = true) ∧ ((!b == ([] : List UInt8)) = false) ∧ ((!c == ([] : List UInt8)) = true) ∧ (decide ((↑a.length : Int) > (64 : Int)) = false) ∧ (decide ((↑b.length : Int) > (200 : Int)) = true) ∧ (R (.int .i64 3))) := by kernel_rfl

theorem ck3ynynny (R : AV → Prop) (a b c : List UInt8) (_K : AM → Prop) : Obl P 7 (fun v _ => R v) 0 _K [.run 248, .know 7 true, .run 49, .know 7 false, .run 49, .know 7 true, .run 133, .know 18 false, .run 47, .know 18 false, .run 47, .know 18 true, .run 26, .done] ((startM P 7 [.agg [.int .i64 3, .str a, .str b, .str c]] GW)) = (((!a == ([] : List UInt8)) = true) ∧ ((!b == ([] : List UInt8)) = false) ∧ ((!c == ([] : List UInt8)) = true) ∧ (decide ((↑a.length : Int) > (64 : Int)) = false) ∧ (decide ((↑b.length : Int) > (200 : Int)) = false) ∧ (decide ((↑c.length : Int) > (5000 : Int)) = true) ∧ (R (.int .i64 3))) := by kernel_rfl

theorem ck3ynynnn (R : AV → Prop) (a b c : List UInt8) (_K : AM → Prop) : Obl P 7 (fun v _ => R v) 0 _K [.run 248, .know 7 true, .run 49, .know 7 false, .run 49, .know 7 true, .run 133, .know 18 false, .run 47, .know 18 false, .run 47, .know 18 false, .run 52, .done] ((startM P 7 [.agg [.int .i64 3, .str a, .str b, .str c]] GW)) = (((!a == ([] : List UInt8)) = true) ∧ ((!b == ([] : List UInt8)) = false) ∧ ((!c == ([] : List UInt8)) = true) ∧ (decide ((↑a.length : Int) > (64 : Int)) = false) ∧ (decide ((↑b.length : Int) > (200 : Int)) = false) ∧ (decide ((↑c.length : Int) > (5000 : Int)) = false) ∧ (R (.int .i64 0))) := by kernel_rfl

theorem ck3ynny (R : AV → Prop) (a b c : List UInt8) (_K : AM → Prop) : Obl P 7 (fun v _ => R v) 0 _K [.run 248, .know 7 true, .run 49, .know 7 false, .run 49, .know 7 false, .run 133, .know 18 true, .run 26, .done] ((startM P 7 [.agg [.int .i64 3, .str a, .str b, .str c]] GW)) = (((!a == ([] : List UInt8)) = true) ∧ ((!b == ([] : List UInt8)) = false) ∧ ((!c == ([] : List UInt8)) = false) ∧ (decide ((↑a.length : Int) > (64 : Int)) = true) ∧ (R (.int .i64 3))) := by kernel_rfl

theorem ck3ynnny (R : AV → Prop) (a b c : List UInt8) (_K : AM → Prop) : Obl P 7 (fun v _ => R v) 0 _K [.run 248, .know 7 true, .run 49, .know 7 false, .run 49, .know 7 false, .run 133, .know 18 false, .run 47, .know 18 true, .run 26, .done] ((startM P 7 [.agg [.int .i64 3, .str a, .str b, .str c]] GW)) = (((!a == ([] : List UInt8)) = true) ∧ ((!b == ([] : List UInt8)) = false) ∧ ((!c == ([] : List UInt8)) = false) ∧ (decide ((↑a.length : Int) > (64 : Int)) = false) ∧ (decide ((↑b.length : Int) > (200 : Int)) = true) ∧ (R (.int .i64 3))) := by kernel_rfl

theorem ck3ynnnny (R : AV → Prop) (a b c : List UInt8) (_K : AM → Prop) : Obl P 7 (fun v _ => R v) 0 _K [.run 248, .know 7 true, .run 49, .know 7 false, .run 49, .know 7 false, .run 133, .know 18 false, .run 47, .know 18 false, .run 47, .know 18 true, .run 26, .done] ((startM P 7 [.agg [.int .i64 3, .str a, .str b, .str c]] GW)) = (((!a == ([] : List UInt8)) = true) ∧ ((!b == ([] : List UInt8)) = false) ∧ ((!c == ([] : List UInt8)) = false) ∧ (decide ((↑a.length : Int) > (64 : Int)) = false) ∧ (decide ((↑b.length : Int) > (200 : Int)) = false) ∧ (decide ((↑c.length : Int) > (5000 : Int)) = true) ∧ (R (.int .i64 3))) := by kernel_rfl

theorem ck3ynnnnn (R : AV → Prop) (a b c : List UInt8) (_K : AM → Prop) : Obl P 7 (fun v _ => R v) 0 _K [.run 248, .know 7 true, .run 49, .know 7 false, .run 49, .know 7 false, .run 133, .know 18 false, .run 47, .know 18 false, .run 47, .know 18 false, .run 52, .done] ((startM P 7 [.agg [.int .i64 3, .str a, .str b, .str c]] GW)) = (((!a == ([] : List UInt8)) = true) ∧ ((!b == ([] : List UInt8)) = false) ∧ ((!c == ([] : List UInt8)) = false) ∧ (decide ((↑a.length : Int) > (64 : Int)) = false) ∧ (decide ((↑b.length : Int) > (200 : Int)) = false) ∧ (decide ((↑c.length : Int) > (5000 : Int)) = false) ∧ (R (.int .i64 0))) := by kernel_rfl

theorem ck3nyyy (R : AV → Prop) (a b c : List UInt8) (_K : AM → Prop) : Obl P 7 (fun v _ => R v) 0 _K [.run 248, .know 7 false, .run 49, .know 7 true, .run 49, .know 7 true, .run 133, .know 18 true, .run 26, .done] ((startM P 7 [.agg [.int .i64 3, .str a, .str b, .str c]] GW)) = (((!a == ([] : List UInt8)) = false) ∧ ((!b == ([] : List UInt8)) = true) ∧ ((!c == ([] : List UInt8)) = true) ∧ (decide ((↑a.length : Int) > (64 : Int)) = true) ∧ (R (.int .i64 3))) := by kernel_rfl

theorem ck3nyyny (R : AV → Prop) (a b c : List UInt8) (_K : AM → Prop) : Obl P 7 (fun v _ => R v) 0 _K [.run 248, .know 7 false, .run 49, .know 7 true, .run 49, .know 7 true, .run 133, .know 18 false, .run 47, .know 18 true, .run 26, .done] ((startM P 7 [.agg [.int .i64 3, .str a, .str b, .str c]] GW)) = (((!a == ([] : List UInt8)) = false) ∧ ((!b == ([] : List UInt8)) = true) ∧ ((!c == ([] : List UInt8)) = true) ∧ (decide ((↑a.length : Int) > (64 : Int)) = false) ∧ (decide ((↑b.length : Int) > (200 : Int)) = true) ∧ (R (.int .i64 3))) := by kernel_rfl

theorem ck3nyynny (R : AV → Prop) (a b c : List UInt8) (_K : AM → Prop) : Obl P 7 (fun v _ => R v) 0 _K [.run 248, .know 7 false, .run 49, .know 7 true, .run 49, .know 7 true, .run 133, .know 18 false, .run 47, .know 18 false, .run 47, .know 18 true, .run 26, .done] ((startM P 7 [.agg [.int .i64 3, .str a, .str b, .str c]] GW)) = (((!a == ([] : List UInt8)) = false) ∧ ((!b == ([] : List UInt8)) = true) ∧ ((!c == ([] : List UInt8)) = true) ∧ (decide ((↑a.length : Int) > (64 : Int)) = false) ∧ (decide ((↑b.length : Int) > (200 : Int)) = false) ∧ (decide ((↑c.length : Int) > (5000 : Int)) = true) ∧ (R (.int .i64 3))) := by kernel_rfl

theorem ck3nyynnn (R : AV → Prop) (a b c : List UInt8) (_K : AM → Prop) : Obl P 7 (fun v _ => R v) 0 _K [.run 248, .know 7 false, .run 49, .know 7 true, .run 49, .know 7 true, .run 133, .know 18 false, .run 47, .know 18 false, .run 47, .know 18 false, .run 52, .done] ((startM P 7 [.agg [.int .i64 3, .str a, .str b, .str c]] GW)) = (((!a == ([] : List UInt8)) = false) ∧ ((!b == ([] : List UInt8)) = true) ∧ ((!c == ([] : List UInt8)) = true) ∧ (decide ((↑a.length : Int) > (64 : Int)) = false) ∧ (decide ((↑b.length : Int) > (200 : Int)) = false) ∧ (decide ((↑c.length : Int) > (5000 : Int)) = false) ∧ (R (.int .i64 0))) := by kernel_rfl

theorem ck3nyny (R : AV → Prop) (a b c : List UInt8) (_K : AM → Prop) : Obl P 7 (fun v _ => R v) 0 _K [.run 248, .know 7 false, .run 49, .know 7 true, .run 49, .know 7 false, .run 133, .know 18 true, .run 26, .done] ((startM P 7 [.agg [.int .i64 3, .str a, .str b, .str c]] GW)) = (((!a == ([] : List UInt8)) = false) ∧ ((!b == ([] : List UInt8)) = true) ∧ ((!c == ([] : List UInt8)) = false) ∧ (decide ((↑a.length : Int) > (64 : Int)) = true) ∧ (R (.int .i64 3))) := by kernel_rfl

theorem ck3nynny (R : AV → Prop) (a b c : List UInt8) (_K : AM → Prop) : Obl P 7 (fun v _ => R v) 0 _K [.run 248, .know 7 false, .run 49, .know 7 true, .run 49, .know 7 false, .run 133, .know 18 false, .run 47, .know 18 true, .run 26, .done] ((startM P 7 [.agg [.int .i64 3, .str a, .str b, .str c]] GW)) = (((!a == ([] : List UInt8)) = false) ∧ ((!b == ([] : List UInt8)) = true) ∧ ((!c == ([] : List UInt8)) = false) ∧ (decide ((↑a.length : Int) > (64 : Int)) = false) ∧ (decide ((↑b.length : Int) > (200 : Int)) = true) ∧ (R (.int .i64 3))) := by kernel_rfl

theorem ck3nynnny (R : AV → Prop) (a b c : List UInt8) (_K : AM → Prop) : Obl P 7 (fun v _ => R v) 0 _K [.run 248, .know 7 false, .run 49, .know 7 true, .run 49, .know 7 false, .run 133, .know 18 false, .run 47, .know 18 false, .run 47, .know 18 true, .run 26, .done] ((startM P 7 [.agg [.int .i64 3, .str a, .str b, .str c]] GW)) = (((!a == ([] : List UInt8)) = false) ∧ ((!b == ([] : List UInt8)) = true) ∧ ((!c == ([] : List UInt8)) = false) ∧ (decide ((↑a.length : Int) > (64 : Int)) = false) ∧ (decide ((↑b.length : Int) > (200 : Int)) = false) ∧ (decide ((↑c.length : Int) > (5000 : Int)) = true) ∧ (R (.int .i64 3))) := by kernel_rfl

theorem ck3nynnnn (R : AV → Prop) (a b c : List UInt8) (_K : AM → Prop) : Obl P 7 (fun v _ => R v) 0 _K [.run 248, .know 7 false, .run 49, .know 7 true, .run 49, .know 7 false, .run 133, .know 18 false, .run 47, .know 18 false, .run 47, .know 18 false, .run 52, .done] ((startM P 7 [.agg [.int .i64 3, .str a, .str b, .str c]] GW)) = (((!a == ([] : List UInt8)) = false) ∧ ((!b == ([] : List UInt8)) = true) ∧ ((!c == ([] : List UInt8)) = false) ∧ (decide ((↑a.length : Int) > (64 : Int)) = false) ∧ (decide ((↑b.length : Int) > (200 : Int)) = false) ∧ (decide ((↑c.length : Int) > (5000 : Int)) = false) ∧ (R (.int .i64 0))) := by kernel_rfl

theorem ck3nnyy (R : AV → Prop) (a b c : List UInt8) (_K : AM → Prop) : Obl P 7 (fun v _ => R v) 0 _K [.run 248, .know 7 false, .run 49, .know 7 false, .run 49, .know 7 true, .run 133, .know 18 true, .run 26, .done] ((startM P 7 [.agg [.int .i64 3, .str a, .str b, .str c]] GW)) = (((!a == ([] : List UInt8)) = false) ∧ ((!b == ([] : List UInt8)) = false) ∧ ((!c == ([] : List UInt8)) = true) ∧ (decide ((↑a.length : Int) > (64 : Int)) = true) ∧ (R (.int .i64 3))) := by kernel_rfl

theorem ck3nnyny (R : AV → Prop) (a b c : List UInt8) (_K : AM → Prop) : Obl P 7 (fun v _ => R v) 0 _K [.run 248, .know 7 false, .run 49, .know 7 false, .run 49, .know 7 true, .run 133, .know 18 false, .run 47, .know 18 true, .run 26, .done] ((startM P 7 [.agg [.int .i64 3, .str a, .str b, .str c]] GW)) = (((!a == ([] : List UInt8)) = false) ∧ ((!b == ([] : List UInt8)) = false) ∧ ((!c == ([] : List UInt8)) = true) ∧ (decide ((↑a.length : Int) > (64 : Int)) = false) ∧ (decide ((↑b.length : Int) > (200 : Int)) = true) ∧ (R (.int .i64 3))) := by kernel_rfl

theorem ck3nnynny (R : AV → Prop) (a b c : List UInt8) (_K : AM → Prop) : Obl P 7 (fun v _ => R v) 0 _K [.run 248, .know 7 false, .run 49, .know 7 false, .run 49, .know 7 true, .run 133, .know 18 false, .run 47, .know 18 false, .run 47, .know 18 true, .run 26, .done] ((startM P 7 [.agg [.int .i64 3, .str a, .str b, .str c]] GW)) = (((!a == ([] : List UInt8)) = false) ∧ ((!b == ([] : List UInt8)) = false) ∧ ((!c == ([] : List UInt8)) = true) ∧ (decide ((↑a.length : Int) > (64 : Int)) = false) ∧ (decide ((↑b.length : Int) > (200 : Int)) = false) ∧ (decide ((↑c.length : Int) > (5000 : Int)) = true) ∧ (R (.int .i64 3))) := by kernel_rfl

theorem ck3nnynnn (R : AV → Prop) (a b c : List UInt8) (_K : AM → Prop) : Obl P 7 (fun v _ => R v) 0 _K [.run 248, .know 7 false, .run 49, .know 7 false, .run 49, .know 7 true, .run 133, .know 18 false, .run 47, .know 18 false, .run 47, .know 18 false, .run 52, .done] ((startM P 7 [.agg [.int .i64 3, .str a, .str b, .str c]] GW)) = (((!a == ([] : List UInt8)) = false) ∧ ((!b == ([] : List UInt8)) = false) ∧ ((!c == ([] : List UInt8)) = true) ∧ (decide ((↑a.length : Int) > (64 : Int)) = false) ∧ (decide ((↑b.length : Int) > (200 : Int)) = false) ∧ (decide ((↑c.length : Int) > (5000 : Int)) = false) ∧ (R (.int .i64 0))) := by kernel_rfl

theorem ck3nnny (R : AV → Prop) (a b c : List UInt8) (_K : AM → Prop) : Obl P 7 (fun v _ => R v) 0 _K [.run 248, .know 7 false, .run 49, .know 7 false, .run 49, .know 7 false, .run 133, .know 18 true, .run 26, .done] ((startM P 7 [.agg [.int .i64 3, .str a, .str b, .str c]] GW)) = (((!a == ([] : List UInt8)) = false) ∧ ((!b == ([] : List UInt8)) = false) ∧ ((!c == ([] : List UInt8)) = false) ∧ (decide ((↑a.length : Int) > (64 : Int)) = true) ∧ (R (.int .i64 3))) := by kernel_rfl

theorem ck3nnnny (R : AV → Prop) (a b c : List UInt8) (_K : AM → Prop) : Obl P 7 (fun v _ => R v) 0 _K [.run 248, .know 7 false, .run 49, .know 7 false, .run 49, .know 7 false, .run 133, .know 18 false, .run 47, .know 18 true, .run 26, .done] ((startM P 7 [.agg [.int .i64 3, .str a, .str b, .str c]] GW)) = (((!a == ([] : List UInt8)) = false) ∧ ((!b == ([] : List UInt8)) = false) ∧ ((!c == ([] : List UInt8)) = false) ∧ (decide ((↑a.length : Int) > (64 : Int)) = false) ∧ (decide ((↑b.length : Int) > (200 : Int)) = true) ∧ (R (.int .i64 3))) := by kernel_rfl

theorem ck3nnnnny (R : AV → Prop) (a b c : List UInt8) (_K : AM → Prop) : Obl P 7 (fun v _ => R v) 0 _K [.run 248, .know 7 false, .run 49, .know 7 false, .run 49, .know 7 false, .run 133, .know 18 false, .run 47, .know 18 false, .run 47, .know 18 true, .run 26, .done] ((startM P 7 [.agg [.int .i64 3, .str a, .str b, .str c]] GW)) = (((!a == ([] : List UInt8)) = false) ∧ ((!b == ([] : List UInt8)) = false) ∧ ((!c == ([] : List UInt8)) = false) ∧ (decide ((↑a.length : Int) > (64 : Int)) = false) ∧ (decide ((↑b.length : Int) > (200 : Int)) = false) ∧ (decide ((↑c.length : Int) > (5000 : Int)) = true) ∧ (R (.int .i64 3))) := by kernel_rfl

theorem ck3nnnnnn (R : AV → Prop) (a b c : List UInt8) (_K : AM → Prop) : Obl P 7 (fun v _ => R v) 0 _K [.run 248, .know 7 false, .run 49, .know 7 false, .run 49, .know 7 false, .run 133, .know 18 false, .run 47, .know 18 false, .run 47, .know 18 false, .run 52, .done] ((startM P 7 [.agg [.int .i64 3, .str a, .str b, .str c]] GW)) = (((!a == ([] : List UInt8)) = false) ∧ ((!b == ([] : List UInt8)) = false) ∧ ((!c == ([] : List UInt8)) = false) ∧ (decide ((↑a.length : Int) > (64 : Int)) = false) ∧ (decide ((↑b.length : Int) > (200 : Int)) = false) ∧ (decide ((↑c.length : Int) > (5000 : Int)) = false) ∧ (R (.int .i64 0))) := by kernel_rfl

theorem ck3_ok (a b c : List UInt8) : Goal P 0 7 (fun v _ => v = .int .i64 (chkL 64 200 5000 a b c)) (startM P 7 [.agg [.int .i64 3, .str a, .str b, .str c]] GW) := by
  cases h0 : ((!a == ([] : List UInt8))) with
  | true =>
    cases h1 : ((!b == ([] : List UInt8))) with
    | true =>
      cases h2 : ((!c == ([] : List UInt8))) with
      | true =>
        cases h3 : (decide ((↑a.length : Int) > (64 : Int))) with
        | true =>
          have g0 := neT h0; have g1 := neT h1; have g2 := neT h2; have g3 := of_decide_eq_true h3; exact Obl.goal (K := fun _ => False) mix (fun _ h => h.elim) (cast (ck3yyyy _ a b c _).symm ⟨h0, h1, h2, h3, congrArg (AV.int .i64) (chk3 (by omega) (by omega)).symm⟩)
        | false =>
          cases h4 : (decide ((↑b.length : Int) > (200 : Int))) with
          | true =>
            have g0 := neT h0; have g1 := neT h1; have g2 := neT h2; have g3 := of_decide_eq_false h3; have g4 := of_decide_eq_true h4; exact Obl.goal (K := fun _ => False) mix (fun _ h => h.elim) (cast (ck3yyyny _ a b c _).symm ⟨h0, h1, h2, h3, h4, congrArg (AV.int .i64) (chk3 (by omega) (by omega)).symm⟩)
          | false =>
            cases h5 : (decide ((↑c.length : Int) > (5000 : Int))) with
            | true =>
              have g0 := neT h0; have g1 := neT h1; have g2 := neT h2; have g3 := of_decide_eq_false h3; have g4 := of_decide_eq_false h4; have g5 := of_decide_eq_true h5; exact Obl.goal (K := fun _ => False) mix (fun _ h => h.elim) (cast (ck3yyynny _ a b c _).symm ⟨h0, h1, h2, h3, h4, h5, congrArg (AV.int .i64) (chk3 (by omega) (by omega)).symm⟩)
            | false =>
              have g0 := neT h0; have g1 := neT h1; have g2 := neT h2; have g3 := of_decide_eq_false h3; have g4 := of_decide_eq_false h4; have g5 := of_decide_eq_false h5; exact Obl.goal (K := fun _ => False) mix (fun _ h => h.elim) (cast (ck3yyynnn _ a b c _).symm ⟨h0, h1, h2, h3, h4, h5, congrArg (AV.int .i64) (chk0 (by omega) (by omega)).symm⟩)
      | false =>
        cases h3 : (decide ((↑a.length : Int) > (64 : Int))) with
        | true =>
          have g0 := neT h0; have g1 := neT h1; have g2 := neF h2; have g3 := of_decide_eq_true h3; exact Obl.goal (K := fun _ => False) mix (fun _ h => h.elim) (cast (ck3yyny _ a b c _).symm ⟨h0, h1, h2, h3, congrArg (AV.int .i64) (chk3 (by omega) (by omega)).symm⟩)
        | false =>
          cases h4 : (decide ((↑b.length : Int) > (200 : Int))) with
          | true =>
            have g0 := neT h0; have g1 := neT h1; have g2 := neF h2; have g3 := of_decide_eq_false h3; have g4 := of_decide_eq_true h4; exact Obl.goal (K := fun _ => False) mix (fun _ h => h.elim) (cast (ck3yynny _ a b c _).symm ⟨h0, h1, h2, h3, h4, congrArg (AV.int .i64) (chk3 (by omega) (by omega)).symm⟩)
          | false =>
            cases h5 : (decide ((↑c.length : Int) > (5000 : Int))) with
            | true =>
              have g0 := neT h0; have g1 := neT h1; have g2 := neF h2; have g3 := of_decide_eq_false h3; have g4 := of_decide_eq_false h4; have g5 := of_decide_eq_true h5; exact Obl.goal (K := fun _ => False) mix (fun _ h => h.elim) (cast (ck3yynnny _ a b c _).symm ⟨h0, h1, h2, h3, h4, h5, congrArg (AV.int .i64) (chk3 (by omega) (by omega)).symm⟩)
            | false =>
              have g0 := neT h0; have g1 := neT h1; have g2 := neF h2; have g3 := of_decide_eq_false h3; have g4 := of_decide_eq_false h4; have g5 := of_decide_eq_false h5; exact Obl.goal (K := fun _ => False) mix (fun _ h => h.elim) (cast (ck3yynnnn _ a b c _).symm ⟨h0, h1, h2, h3, h4, h5, congrArg (AV.int .i64) (chk0 (by omega) (by omega)).symm⟩)
    | false =>
      cases h2 : ((!c == ([] : List UInt8))) with
      | true =>
        cases h3 : (decide ((↑a.length : Int) > (64 : Int))) with
        | true =>
          have g0 := neT h0; have g1 := neF h1; have g2 := neT h2; have g3 := of_decide_eq_true h3; exact Obl.goal (K := fun _ => False) mix (fun _ h => h.elim) (cast (ck3ynyy _ a b c _).symm ⟨h0, h1, h2, h3, congrArg (AV.int .i64) (chk3 (by omega) (by omega)).symm⟩)
        | false =>
          cases h4 : (decide ((↑b.length : Int) > (200 : Int))) with
          | true =>
            have g0 := neT h0; have g1 := neF h1; have g2 := neT h2; have g3 := of_decide_eq_false h3; have g4 := of_decide_eq_true h4; exact Obl.goal (K := fun _ => False) mix (fun _ h => h.elim) (cast (ck3ynyny _ a b c _).symm ⟨h0, h1, h2, h3, h4, congrArg (AV.int .i64) (chk3 (by omega) (by omega)).symm⟩)
          | false =>
            cases h5 : (decide ((↑c.length : Int) > (5000 : Int))) with
            | true =>
              have g0 := neT h0; have g1 := neF h1; have g2 := neT h2; have g3 := of_decide_eq_false h3; have g4 := of_decide_eq_false h4; have g5 := of_decide_eq_true h5; exact Obl.goal (K := fun _ => False) mix (fun _ h => h.elim) (cast (ck3ynynny _ a b c _).symm ⟨h0, h1, h2, h3, h4, h5, congrArg (AV.int .i64) (chk3 (by omega) (by omega)).symm⟩)
            | false =>
              have g0 := neT h0; have g1 := neF h1; have g2 := neT h2; have g3 := of_decide_eq_false h3; have g4 := of_decide_eq_false h4; have g5 := of_decide_eq_false h5; exact Obl.goal (K := fun _ => False) mix (fun _ h => h.elim) (cast (ck3ynynnn _ a b c _).symm ⟨h0, h1, h2, h3, h4, h5, congrArg (AV.int .i64) (chk0 (by omega) (by omega)).symm⟩)
      | false =>
        cases h3 : (decide ((↑a.length : Int) > (64 : Int))) with
        | true =>
          have g0 := neT h0; have g1 := neF h1; have g2 := neF h2; have g3 := of_decide_eq_true h3; exact Obl.goal (K := fun _ => False) mix (fun _ h => h.elim) (cast (ck3ynny _ a b c _).symm ⟨h0, h1, h2, h3, congrArg (AV.int .i64) (chk3 (by omega) (by omega)).symm⟩)
        | false =>
          cases h4 : (decide ((↑b.length : Int) > (200 : Int))) with
          | true =>
            have g0 := neT h0; have g1 := neF h1; have g2 := neF h2; have g3 := of_decide_eq_false h3; have g4 := of_decide_eq_true h4; exact Obl.goal (K := fun _ => False) mix (fun _ h => h.elim) (cast (ck3ynnny _ a b c _).symm ⟨h0, h1, h2, h3, h4, congrArg (AV.int .i64) (chk3 (by omega) (by omega)).symm⟩)
          | false =>
            cases h5 : (decide ((↑c.length : Int) > (5000 : Int))) with
            | true =>
              have g0 := neT h0; have g1 := neF h1; have g2 := neF h2; have g3 := of_decide_eq_false h3; have g4 := of_decide_eq_false h4; have g5 := of_decide_eq_true h5; exact Obl.goal (K := fun _ => False) mix (fun _ h => h.elim) (cast (ck3ynnnny _ a b c _).symm ⟨h0, h1, h2, h3, h4, h5, congrArg (AV.int .i64) (chk3 (by omega) (by omega)).symm⟩)
            | false =>
              have g0 := neT h0; have g1 := neF h1; have g2 := neF h2; have g3 := of_decide_eq_false h3; have g4 := of_decide_eq_false h4; have g5 := of_decide_eq_false h5; exact Obl.goal (K := fun _ => False) mix (fun _ h => h.elim) (cast (ck3ynnnnn _ a b c _).symm ⟨h0, h1, h2, h3, h4, h5, congrArg (AV.int .i64) (chk0 (by omega) (by omega)).symm⟩)
  | false =>
    cases h1 : ((!b == ([] : List UInt8))) with
    | true =>
      cases h2 : ((!c == ([] : List UInt8))) with
      | true =>
        cases h3 : (decide ((↑a.length : Int) > (64 : Int))) with
        | true =>
          have g0 := neF h0; have g1 := neT h1; have g2 := neT h2; have g3 := of_decide_eq_true h3; exact Obl.goal (K := fun _ => False) mix (fun _ h => h.elim) (cast (ck3nyyy _ a b c _).symm ⟨h0, h1, h2, h3, congrArg (AV.int .i64) (chk3 (by omega) (by omega)).symm⟩)
        | false =>
          cases h4 : (decide ((↑b.length : Int) > (200 : Int))) with
          | true =>
            have g0 := neF h0; have g1 := neT h1; have g2 := neT h2; have g3 := of_decide_eq_false h3; have g4 := of_decide_eq_true h4; exact Obl.goal (K := fun _ => False) mix (fun _ h => h.elim) (cast (ck3nyyny _ a b c _).symm ⟨h0, h1, h2, h3, h4, congrArg (AV.int .i64) (chk3 (by omega) (by omega)).symm⟩)
          | false =>
            cases h5 : (decide ((↑c.length : Int) > (5000 : Int))) with
            | true =>
              have g0 := neF h0; have g1 := neT h1; have g2 := neT h2; have g3 := of_decide_eq_false h3; have g4 := of_decide_eq_false h4; have g5 := of_decide_eq_true h5; exact Obl.goal (K := fun _ => False) mix (fun _ h => h.elim) (cast (ck3nyynny _ a b c _).symm ⟨h0, h1, h2, h3, h4, h5, congrArg (AV.int .i64) (chk3 (by omega) (by omega)).symm⟩)
            | false =>
              have g0 := neF h0; have g1 := neT h1; have g2 := neT h2; have g3 := of_decide_eq_false h3; have g4 := of_decide_eq_false h4; have g5 := of_decide_eq_false h5; exact Obl.goal (K := fun _ => False) mix (fun _ h => h.elim) (cast (ck3nyynnn _ a b c _).symm ⟨h0, h1, h2, h3, h4, h5, congrArg (AV.int .i64) (chk0 (by omega) (by omega)).symm⟩)
      | false =>
        cases h3 : (decide ((↑a.length : Int) > (64 : Int))) with
        | true =>
          have g0 := neF h0; have g1 := neT h1; have g2 := neF h2; have g3 := of_decide_eq_true h3; exact Obl.goal (K := fun _ => False) mix (fun _ h => h.elim) (cast (ck3nyny _ a b c _).symm ⟨h0, h1, h2, h3, congrArg (AV.int .i64) (chk3 (by omega) (by omega)).symm⟩)
        | false =>
          cases h4 : (decide ((↑b.length : Int) > (200 : Int))) with
          | true =>
            have g0 := neF h0; have g1 := neT h1; have g2 := neF h2; have g3 := of_decide_eq_false h3; have g4 := of_decide_eq_true h4; exact Obl.goal (K := fun _ => False) mix (fun _ h => h.elim) (cast (ck3nynny _ a b c _).symm ⟨h0, h1, h2, h3, h4, congrArg (AV.int .i64) (chk3 (by omega) (by omega)).symm⟩)
          | false =>
            cases h5 : (decide ((↑c.length : Int) > (5000 : Int))) with
            | true =>
              have g0 := neF h0; have g1 := neT h1; have g2 := neF h2; have g3 := of_decide_eq_false h3; have g4 := of_decide_eq_false h4; have g5 := of_decide_eq_true h5; exact Obl.goal (K := fun _ => False) mix (fun _ h => h.elim) (cast (ck3nynnny _ a b c _).symm ⟨h0, h1, h2, h3, h4, h5, congrArg (AV.int .i64) (chk3 (by omega) (by omega)).symm⟩)
            | false =>
              have g0 := neF h0; have g1 := neT h1; have g2 := neF h2; have g3 := of_decide_eq_false h3; have g4 := of_decide_eq_false h4; have g5 := of_decide_eq_false h5; exact Obl.goal (K := fun _ => False) mix (fun _ h => h.elim) (cast (ck3nynnnn _ a b c _).symm ⟨h0, h1, h2, h3, h4, h5, congrArg (AV.int .i64) (chk0 (by omega) (by omega)).symm⟩)
    | false =>
      cases h2 : ((!c == ([] : List UInt8))) with
      | true =>
        cases h3 : (decide ((↑a.length : Int) > (64 : Int))) with
        | true =>
          have g0 := neF h0; have g1 := neF h1; have g2 := neT h2; have g3 := of_decide_eq_true h3; exact Obl.goal (K := fun _ => False) mix (fun _ h => h.elim) (cast (ck3nnyy _ a b c _).symm ⟨h0, h1, h2, h3, congrArg (AV.int .i64) (chk3 (by omega) (by omega)).symm⟩)
        | false =>
          cases h4 : (decide ((↑b.length : Int) > (200 : Int))) with
          | true =>
            have g0 := neF h0; have g1 := neF h1; have g2 := neT h2; have g3 := of_decide_eq_false h3; have g4 := of_decide_eq_true h4; exact Obl.goal (K := fun _ => False) mix (fun _ h => h.elim) (cast (ck3nnyny _ a b c _).symm ⟨h0, h1, h2, h3, h4, congrArg (AV.int .i64) (chk3 (by omega) (by omega)).symm⟩)
          | false =>
            cases h5 : (decide ((↑c.length : Int) > (5000 : Int))) with
            | true =>
              have g0 := neF h0; have g1 := neF h1; have g2 := neT h2; have g3 := of_decide_eq_false h3; have g4 := of_decide_eq_false h4; have g5 := of_decide_eq_true h5; exact Obl.goal (K := fun _ => False) mix (fun _ h => h.elim) (cast (ck3nnynny _ a b c _).symm ⟨h0, h1, h2, h3, h4, h5, congrArg (AV.int .i64) (chk3 (by omega) (by omega)).symm⟩)
            | false =>
              have g0 := neF h0; have g1 := neF h1; have g2 := neT h2; have g3 := of_decide_eq_false h3; have g4 := of_decide_eq_false h4; have g5 := of_decide_eq_false h5; exact Obl.goal (K := fun _ => False) mix (fun _ h => h.elim) (cast (ck3nnynnn _ a b c _).symm ⟨h0, h1, h2, h3, h4, h5, congrArg (AV.int .i64) (chk0 (by omega) (by omega)).symm⟩)
      | false =>
        cases h3 : (decide ((↑a.length : Int) > (64 : Int))) with
        | true =>
          have g0 := neF h0; have g1 := neF h1; have g2 := neF h2; have g3 := of_decide_eq_true h3; exact Obl.goal (K := fun _ => False) mix (fun _ h => h.elim) (cast (ck3nnny _ a b c _).symm ⟨h0, h1, h2, h3, congrArg (AV.int .i64) (chk3 (by omega) (by omega)).symm⟩)
        | false =>
          cases h4 : (decide ((↑b.length : Int) > (200 : Int))) with
          | true =>
            have g0 := neF h0; have g1 := neF h1; have g2 := neF h2; have g3 := of_decide_eq_false h3; have g4 := of_decide_eq_true h4; exact Obl.goal (K := fun _ => False) mix (fun _ h => h.elim) (cast (ck3nnnny _ a b c _).symm ⟨h0, h1, h2, h3, h4, congrArg (AV.int .i64) (chk3 (by omega) (by omega)).symm⟩)
          | false =>
            cases h5 : (decide ((↑c.length : Int) > (5000 : Int))) with
            | true =>
              have g0 := neF h0; have g1 := neF h1; have g2 := neF h2; have g3 := of_decide_eq_false h3; have g4 := of_decide_eq_false h4; have g5 := of_decide_eq_true h5; exact Obl.goal (K := fun _ => False) mix (fun _ h => h.elim) (cast (ck3nnnnny _ a b c _).symm ⟨h0, h1, h2, h3, h4, h5, congrArg (AV.int .i64) (chk3 (by omega) (by omega)).symm⟩)
            | false =>
              have g0 := neF h0; have g1 := neF h1; have g2 := neF h2; have g3 := of_decide_eq_false h3; have g4 := of_decide_eq_false h4; have g5 := of_decide_eq_false h5; exact Obl.goal (K := fun _ => False) mix (fun _ h => h.elim) (cast (ck3nnnnnn _ a b c _).symm ⟨h0, h1, h2, h3, h4, h5, congrArg (AV.int .i64) (chk0 (by omega) (by omega)).symm⟩)


theorem ck4yyy (R : AV → Prop) (a b c : List UInt8) (_K : AM → Prop) : Obl P 7 (fun v _ => R v) 0 _K [.run 248, .know 7 true, .run 49, .know 7 true, .run 49, .know 7 true, .run 34, .done] ((startM P 7 [.agg [.int .i64 4, .str a, .str b, .str c]] GW)) = (((!a == ([] : List UInt8)) = true) ∧ ((!b == ([] : List UInt8)) = true) ∧ ((!c == ([] : List UInt8)) = true) ∧ (R (.int .i64 2))) := by kernel_rfl

theorem ck4yyny (R : AV → Prop) (a b c : List UInt8) (_K : AM → Prop) : Obl P 7 (fun v _ => R v) 0 _K [.run 248, .know 7 true, .run 49, .know 7 true, .run 49, .know 7 false, .run 133, .know 18 true, .run 26, .done] ((startM P 7 [.agg [.int .i64 4, .str a, .str b, .str c]] GW)) = (((!a == ([] : List UInt8)) = true) ∧ ((!b == ([] : List UInt8)) = true) ∧ ((!c == ([] : List UInt8)) = false) ∧ (decide ((↑a.length : Int) > (64 : Int)) = true) ∧ (R (.int .i64 3))) := by kernel_rfl

theorem ck4yynny (R : AV → Prop) (a b c : List UInt8) (_K : AM → Prop) : Obl P 7 (fun v _ => R v) 0 _K [.run 248, .know 7 true, .run 49, .know 7 true, .run 49, .know 7 false, .run 133, .know 18 false, .run 47, .know 18 true, .run 26, .done] ((startM P 7 [.agg [.int .i64 4, .str a, .str b, .str c]] GW)) = (((!a == ([] : List UInt8)) = true) ∧ ((!b == ([] : List UInt8)) = true) ∧ ((!c == ([] : List UInt8)) = false) ∧ (decide ((↑a.length : Int) > (64 : Int)) = false) ∧ (decide ((↑b.length : Int) > (200 : Int)) = true) ∧ (R (.int .i64 3))) := by kernel_rfl

theorem ck4yynnny (R : AV → Prop) (a b c : List UInt8) (_K : AM → Prop) : Obl P 7 (fun v _ => R v) 0 _K [.run 248, .know 7 true, .run 49, .know 7 true, .run 49, .know 7 false, .run 133, .know 18 false, .run 47, .know 18 false, .run 47, .know 18 true, .run 26, .done] ((startM P 7 [.agg [.int .i64 4, .str a, .str b, .str c]] GW)) = (((!a == ([] : List UInt8)) = true) ∧ ((!b == ([] : List UInt8)) = true) ∧ ((!c == ([] : List UInt8)) = false) ∧ (decide ((↑a.length : Int) > (64 : Int)) = false) ∧ (decide ((↑b.length : Int) > (200 : Int)) = false) ∧ (decide ((↑c.length : Int) > (0 : Int)) = true) ∧ (R (.int .i64 3))) := by kernel_rfl

theorem ck4yynnnn (R : AV → Prop) (a b c : List UInt8) (_K : AM → Prop) : Obl P 7 (fun v _ => R v) 0 _K [.run 248, .know 7 true, .run 49, .know 7 true, .run 49, .know 7 false, .run 133, .know 18 false, .run 47, .know 18 false, .run 47, .know 18 false, .run 52, .done] ((startM P 7 [.agg [.int .i64 4, .str a, .str b, .str c]] GW)) = (((!a == ([] : List UInt8)) = true) ∧ ((!b == ([] : List UInt8)) = true) ∧ ((!c == ([] : List UInt8)) = false) ∧ (decide ((↑a.length : Int) > (64 : Int)) = false) ∧ (decide ((↑b.length : Int) > (200 : Int)) = false) ∧ (decide ((↑c.length : Int) > (0 : Int)) = false) ∧ (R (.int .i64 0))) := by kernel_rfl

theorem ck4yny (R : AV → Prop) (a b c : List UInt8) (_K : AM → Prop) : Obl P 7 (fun v _ => R v) 0 _K [.run 248, .know 7 true, .run 49, .know 7 false, .run 49, .know 7 true, .run 34, .done] ((startM P 7 [.agg [.int .i64 4, .str a, .str b, .str c]] GW)) = (((!a == ([] : List UInt8)) = true) ∧ ((!b == ([] : List UInt8)) = false) ∧ ((!c == ([] : List UInt8)) = true) ∧ (R (.int .i64 2))) := by kernel_rfl

theorem ck4ynny (R : AV → Prop) (a b c : List UInt8) (_K : AM → Prop) : Obl P 7 (fun v _ => R v) 0 _K [.run 248, .know 7 true, .run 49, .know 7 false, .run 49, .know 7 false, .run 133, .know 18 true, .run 26, .done] ((startM P 7 [.agg [.int .i64 4, .str a, .str b, .str c]] GW)) = (((!a == ([] : List UInt8)) = true) ∧ ((!b == ([] : List UInt8)) = false) ∧ ((!c == ([] : List UInt8)) = false) ∧ (decide ((↑a.length : Int) > (64 : Int)) = true) ∧ (R (.int .i64 3))) := by kernel_rfl

theorem ck4ynnny (R : AV → Prop) (a b c : List UInt8) (_K : AM → Prop) : Obl P 7 (fun v _ => R v) 0 _K [.run 248, .know 7 true, .run 49, .know 7 false, .run 49, .know 7 false, .run 133, .know 18 false, .run 47, .know 18 true, .run 26, .done] ((startM P 7 [.agg [.int .i64 4, .str a, .str b, .str c]] GW)) = (((!a == ([] : List UInt8)) = true) ∧ ((!b == ([] : List UInt8)) = false) ∧ ((!c == ([] : List UInt8)) = false) ∧ (decide ((↑a.length : Int) > (64 : Int)) = false) ∧ (decide ((↑b.length : Int) > (200 : Int)) = true) ∧ (R (.int .i64 3))) := by kernel_rfl

theorem ck4ynnnny (R : AV → Prop) (a b c : List UInt8) (_K : AM → Prop) : Obl P 7 (fun v _ => R v) 0 _K [.run 248, .know 7 true, .run 49, .know 7 false, .run 49, .know 7 false, .run 133, .know 18 false, .run 47, .know 18 false, .run 47, .know 18 true, .run 26, .done] ((startM P 7 [.agg [.int .i64 4, .str a, .str b, .str c]] GW)) = (((!a == ([] : List UInt8)) = true) ∧ ((!b == ([] : List UInt8)) = false) ∧ ((!c == ([] : List UInt8)) = false) ∧ (decide ((↑a.length : Int) > (64 : Int)) = false) ∧ (decide ((↑b.length : Int) > (200 : Int)) = false) ∧ (decide ((↑c.length : Int) > (0 : Int)) = true) ∧ (R (.int .i64 3))) := by kernel_rfl

theorem ck4ynnnnn (R : AV → Prop) (a b c : List UInt8) (_K : AM → Prop) : Obl P 7 (fun v _ => R v) 0 _K [.run 248, .know 7 true, .run 49, .know 7 false, .run 49, .know 7 false, .run 133, .know 18 false, .run 47, .know 18 false, .run 47, .know 18 false, .run 52, .done] ((startM P 7 [.agg [.int .i64 4, .str a, .str b, .str c]] GW)) = (((!a == ([] : List UInt8)) = true) ∧ ((!b == ([] : List UInt8)) = false) ∧ ((!c == ([] : List UInt8)) = false) ∧ (decide ((↑a.length : Int) > (64 : Int)) = false) ∧ (decide ((↑b.length : Int) > (200 : Int)) = false) ∧ (decide ((↑c.length : Int) > (0 : Int)) = false) ∧ (R (.int .i64 0))) := by kernel_rfl

theorem ck4nyy (R : AV → Prop) (a b c : List UInt8) (_K : AM → Prop) : Obl P 7 (fun v _ => R v) 0 _K [.run 248, .know 7 false, .run 49, .know 7 true, .run 49, .know 7 true, .run 34, .done] ((startM P 7 [.agg [.int .i64 4, .str a, .str b, .str c]] GW)) = (((!a == ([] : List UInt8)) = false) ∧ ((!b == ([] : List UInt8)) = true) ∧ ((!c == ([] : List UInt8)) = true) ∧ (R (.int .i64 2))) := by kernel_rfl

theorem ck4nyny (R : AV → Prop) (a b c : List UInt8) (_K : AM → Prop) : Obl P 7 (fun v _ => R v) 0 _K [.run 248, .know 7 false, .run 49, .know 7 true, .run 49, .know 7 false, .run 133, .know 18 true, .run 26, .done] ((startM P 7 [.agg [.int .i64 4, .str a, .str b, .str c]] GW)) = (((!a == ([] : List UInt8)) = false) ∧ ((!b == ([] : List UInt8)) = true) ∧ ((!c == ([] : List UInt8)) = false) ∧ (decide ((↑a.length : Int) > (64 : Int)) = true) ∧ (R (.int .i64 3))) := by kernel_rfl

theorem ck4nynny (R : AV → Prop) (a b c : List UInt8) (_K : AM → Prop) : Obl P 7 (fun v _ => R v) 0 _K [.run 248, .know 7 false, .run 49, .know 7 true, .run 49, .know 7 false, .run 133, .know 18 false, .run 47, .know 18 true, .run 26, .done] ((startM P 7 [.agg [.int .i64 4, .str a, .str b, .str c]] GW)) = (((!a == ([] : List UInt8)) = false) ∧ ((!b == ([] : List UInt8)) = true) ∧ ((!c == ([] : List UInt8)) = false) ∧ (decide ((↑a.length : Int) > (64 : Int)) = false) ∧ (decide ((↑b.length : Int) > (200 : Int)) = true) ∧ (R (.int .i64 3))) := by kernel_rfl

theorem ck4nynnny (R : AV → Prop) (a b c : List UInt8) (_K : AM → Prop) : Obl P 7 (fun v _ => R v) 0 _K [.run 248, .know 7 false, .run 49, .know 7 true, .run 49, .know 7 false, .run 133, .know 18 false, .run 47, .know 18 false, .run 47, .know 18 true, .run 26, .done] ((startM P 7 [.agg [.int .i64 4, .str a, .str b, .str c]] GW)) = (((!a == ([] : List UInt8)) = false) ∧ ((!b == ([] : List UInt8)) = true) ∧ ((!c == ([] : List UInt8)) = false) ∧ (decide ((↑a.length : Int) > (64 : Int)) = false) ∧ (decide ((↑b.length : Int) > (200 : Int)) = false) ∧ (decide ((↑c.length : Int) > (0 : Int)) = true) ∧ (R (.int .i64 3))) := by kernel_rfl

theorem ck4nynnnn (R : AV → Prop) (a b c : List UInt8) (_K : AM → Prop) : Obl P 7 (fun v _ => R v) 0 _K [.run 248, .know 7 false, .run 49, .know 7 true, .run 49, .know 7 false, .run 133, .know 18 false, .run 47, .know 18 false, .run 47, .know 18 false, .run 52, .done] ((startM P 7 [.agg [.int .i64 4, .str a, .str b, .str c]] GW)) = (((!a == ([] : List UInt8)) = false) ∧ ((!b == ([] : List UInt8)) = true) ∧ ((!c == ([] : List UInt8)) = false) ∧ (decide ((↑a.length : Int) > (64 : Int)) = false) ∧ (decide ((↑b.length : Int) > (200 : Int)) = false) ∧ (decide ((↑c.length : Int) > (0 : Int)) = false) ∧ (R (.int .i64 0))) := by kernel_rfl

theorem ck4nny (R : AV → Prop) (a b c : List UInt8) (_K : AM → Prop) : Obl P 7 (fun v _ => R v) 0 _K [.run 248, .know 7 false, .run 49, .know 7 false, .run 49, .know 7 true, .run 34, .done] ((startM P 7 [.agg [.int .i64 4, .str a, .str b, .str c]] GW)) = (((!a == ([] : List UInt8)) = false) ∧ ((!b == ([] : List UInt8)) = false) ∧ ((!c == ([] : List UInt8)) = true) ∧ (R (.int .i64 2))) := by kernel_rfl

theorem ck4nnny (R : AV → Prop) (a b c : List UInt8) (_K : AM → Prop) : Obl P 7 (fun v _ => R v) 0 _K [.run 248, .know 7 false, .run 49, .know 7 false, .run 49, .know 7 false, .run 133, .know 18 true, .run 26, .done] ((startM P 7 [.agg [.int .i64 4, .str a, .str b, .str c]] GW)) = (((!a == ([] : List UInt8)) = false) ∧ ((!b == ([] : List UInt8)) = false) ∧ ((!c == ([] : List UInt8)) = false) ∧ (decide ((↑a.length : Int) > (64 : Int)) = true) ∧ (R (.int .i64 3))) := by kernel_rfl

theorem ck4nnnny (R : AV → Prop) (a b c : List UInt8) (_K : AM → Prop) : Obl P 7 (fun v _ => R v) 0 _K [.run 248, .know 7 false, .run 49, .know 7 false, .run 49, .know 7 false, .run 133, .know 18 false, .run 47, .know 18 true, .run 26, .done] ((startM P 7 [.agg [.int .i64 4, .str a, .str b, .str c]] GW)) = (((!a == ([] : List UInt8)) = false) ∧ ((!b == ([] : List UInt8)) = false) ∧ ((!c == ([] : List UInt8)) = false) ∧ (decide ((↑a.length : Int) > (64 : Int)) = false) ∧ (decide ((↑b.length : Int) > (200 : Int)) = true) ∧ (R (.int .i64 3))) := by kernel_rfl

theorem ck4nnnnny (R : AV → Prop) (a b c : List UInt8) (_K : AM → Prop) : Obl P 7 (fun v _ => R v) 0 _K [.run 248, .know 7 false, .run 49, .know 7 false, .run 49, .know 7 false, .run 133, .know 18 false, .run 47, .know 18 false, .run 47, .know 18 true, .run 26, .done] ((startM P 7 [.agg [.int .i64 4, .str a, .str b, .str c]] GW)) = (((!a == ([] : List UInt8)) = false) ∧ ((!b == ([] : List UInt8)) = false) ∧ ((!c == ([] : List UInt8)) = false) ∧ (decide ((↑a.length : Int) > (64 : Int)) = false) ∧ (decide ((↑b.length : Int) > (200 : Int)) = false) ∧ (decide ((↑c.length : Int) > (0 : Int)) = true) ∧ (R (.int .i64 3))) := by kernel_rfl

theorem ck4nnnnnn (R : AV → Prop) (a b c : List UInt8) (_K : AM → Prop) : Obl P 7 (fun v _ => R v) 0 _K [.run 248, .know 7 false, .run 49, .know 7 false, .run 49, .know 7 false, .run 133, .know 18 false, .run 47, .know 18 false, .run 47, .know 18 false, .run 52, .done] ((startM P 7 [.agg [.int .i64 4, .str a, .str b, .str c]] GW)) = (((!a == ([] : List UInt8)) = false) ∧ ((!b == ([] : List UInt8)) = false) ∧ ((!c == ([] : List UInt8)) = false) ∧ (decide ((↑a.length : Int) > (64 : Int)) = false) ∧ (decide ((↑b.length : Int) > (200 : Int)) = false) ∧ (decide ((↑c.length : Int) > (0 : Int)) = false) ∧ (R (.int .i64 0))) := by kernel_rfl

theorem ck4_ok (a b c : List UInt8) : Goal P 0 7 (fun v _ => v = .int .i64 (chkL 64 200 0 a b c)) (startM P 7 [.agg [.int .i64 4, .str a, .str b, .str c]] GW) := by
  cases h0 : ((!a == ([] : List UInt8))) with
  | true =>
    cases h1 : ((!b == ([] : List UInt8))) with
    | true =>
      cases h2 : ((!c == ([] : List UInt8))) with
      | true =>
        have g0 := neT h0; have g1 := neT h1; have g2 := neT h2; exact Obl.goal (K := fun _ => False) mix (fun _ h => h.elim) (cast (ck4yyy _ a b c _).symm ⟨h0, h1, h2, congrArg (AV.int .i64) (chk2 (by omega)).symm⟩)
      | false =>
        cases h3 : (decide ((↑a.length : Int) > (64 : Int))) with
        | true =>
          have g0 := neT h0; have g1 := neT h1; have g2 := neF h2; have g3 := of_decide_eq_true h3; exact Obl.goal (K := fun _ => False) mix (fun _ h => h.elim) (cast (ck4yyny _ a b c _).symm ⟨h0, h1, h2, h3, congrArg (AV.int .i64) (chk3 (by omega) (by omega)).symm⟩)
        | false =>
          cases h4 : (decide ((↑b.length : Int) > (200 : Int))) with
          | true =>
            have g0 := neT h0; have g1 := neT h1; have g2 := neF h2; have g3 := of_decide_eq_false h3; have g4 := of_decide_eq_true h4; exact Obl.goal (K := fun _ => False) mix (fun _ h => h.elim) (cast (ck4yynny _ a b c _).symm ⟨h0, h1, h2, h3, h4, congrArg (AV.int .i64) (chk3 (by omega) (by omega)).symm⟩)
          | false =>
            cases h5 : (decide ((↑c.length : Int) > (0 : Int))) with
            | true =>
              have g0 := neT h0; have g1 := neT h1; have g2 := neF h2; have g3 := of_decide_eq_false h3; have g4 := of_decide_eq_false h4; have g5 := of_decide_eq_true h5; exact Obl.goal (K := fun _ => False) mix (fun _ h => h.elim) (cast (ck4yynnny _ a b c _).symm ⟨h0, h1, h2, h3, h4, h5, congrArg (AV.int .i64) (chk3 (by omega) (by omega)).symm⟩)
            | false =>
              have g0 := neT h0; have g1 := neT h1; have g2 := neF h2; have g3 := of_decide_eq_false h3; have g4 := of_decide_eq_false h4; have g5 := of_decide_eq_false h5; exact Obl.goal (K := fun _ => False) mix (fun _ h => h.elim) (cast (ck4yynnnn _ a b c _).symm ⟨h0, h1, h2, h3, h4, h5, congrArg (AV.int .i64) (chk0 (by omega) (by omega)).symm⟩)
    | false =>
      cases h2 : ((!c == ([] : List UInt8))) with
      | true =>
        have g0 := neT h0; have g1 := neF h1; have g2 := neT h2; exact Obl.goal (K := fun _ => False) mix (fun _ h => h.elim) (cast (ck4yny _ a b c _).symm ⟨h0, h1, h2, congrArg (AV.int .i64) (chk2 (by omega)).symm⟩)
      | false =>
        cases h3 : (decide ((↑a.length : Int) > (64 : Int))) with
        | true =>
          have g0 := neT h0; have g1 := neF h1; have g2 := neF h2; have g3 := of_decide_eq_true h3; exact Obl.goal (K := fun _ => False) mix (fun _ h => h.elim) (cast (ck4ynny _ a b c _).symm ⟨h0, h1, h2, h3, congrArg (AV.int .i64) (chk3 (by omega) (by omega)).symm⟩)
        | false =>
          cases h4 : (decide ((↑b.length : Int) > (200 : Int))) with
          | true =>
            have g0 := neT h0; have g1 := neF h1; have g2 := neF h2; have g3 := of_decide_eq_false h3; have g4 := of_decide_eq_true h4; exact Obl.goal (K := fun _ => False) mix (fun _ h => h.elim) (cast (ck4ynnny _ a b c _).symm ⟨h0, h1, h2, h3, h4, congrArg (AV.int .i64) (chk3 (by omega) (by omega)).symm⟩)
          | false =>
            cases h5 : (decide ((↑c.length : Int) > (0 : Int))) with
            | true =>
              have g0 := neT h0; have g1 := neF h1; have g2 := neF h2; have g3 := of_decide_eq_false h3; have g4 := of_decide_eq_false h4; have g5 := of_decide_eq_true h5; exact Obl.goal (K := fun _ => False) mix (fun _ h => h.elim) (cast (ck4ynnnny _ a b c _).symm ⟨h0, h1, h2, h3, h4, h5, congrArg (AV.int .i64) (chk3 (by omega) (by omega)).symm⟩)
            | false =>
              have g0 := neT h0; have g1 := neF h1; have g2 := neF h2; have g3 := of_decide_eq_false h3; have g4 := of_decide_eq_false h4; have g5 := of_decide_eq_false h5; exact Obl.goal (K := fun _ => False) mix (fun _ h => h.elim) (cast (ck4ynnnnn _ a b c _).symm ⟨h0, h1, h2, h3, h4, h5, congrArg (AV.int .i64) (chk0 (by omega) (by omega)).symm⟩)
  | false =>
    cases h1 : ((!b == ([] : List UInt8))) with
    | true =>
      cases h2 : ((!c == ([] : List UInt8))) with
      | true =>
        have g0 := neF h0; have g1 := neT h1; have g2 := neT h2; exact Obl.goal (K := fun _ => False) mix (fun _ h => h.elim) (cast (ck4nyy _ a b c _).symm ⟨h0, h1, h2, congrArg (AV.int .i64) (chk2 (by omega)).symm⟩)
      | false =>
        cases h3 : (decide ((↑a.length : Int) > (64 : Int))) with
        | true =>
          have g0 := neF h0; have g1 := neT h1; have g2 := neF h2; have g3 := of_decide_eq_true h3; exact Obl.goal (K := fun _ => False) mix (fun _ h => h.elim) (cast (ck4nyny _ a b c _).symm ⟨h0, h1, h2, h3, congrArg (AV.int .i64) (chk3 (by omega) (by omega)).symm⟩)
        | false =>
          cases h4 : (decide ((↑b.length : Int) > (200 : Int))) with
          | true =>
            have g0 := neF h0; have g1 := neT h1; have g2 := neF h2; have g3 := of_decide_eq_false h3; have g4 := of_decide_eq_true h4; exact Obl.goal (K := fun _ => False) mix (fun _ h => h.elim) (cast (ck4nynny _ a b c _).symm ⟨h0, h1, h2, h3, h4, congrArg (AV.int .i64) (chk3 (by omega) (by omega)).symm⟩)
          | false =>
            cases h5 : (decide ((↑c.length : Int) > (0 : Int))) with
            | true =>
              have g0 := neF h0; have g1 := neT h1; have g2 := neF h2; have g3 := of_decide_eq_false h3; have g4 := of_decide_eq_false h4; have g5 := of_decide_eq_true h5; exact Obl.goal (K := fun _ => False) mix (fun _ h => h.elim) (cast (ck4nynnny _ a b c _).symm ⟨h0, h1, h2, h3, h4, h5, congrArg (AV.int .i64) (chk3 (by omega) (by omega)).symm⟩)
            | false =>
              have g0 := neF h0; have g1 := neT h1; have g2 := neF h2; have g3 := of_decide_eq_false h3; have g4 := of_decide_eq_false h4; have g5 := of_decide_eq_false h5; exact Obl.goal (K := fun _ => False) mix (fun _ h => h.elim) (cast (ck4nynnnn _ a b c _).symm ⟨h0, h1, h2, h3, h4, h5, congrArg (AV.int .i64) (chk0 (by omega) (by omega)).symm⟩)
    | false =>
      cases h2 : ((!c == ([] : List UInt8))) with
      | true =>
        have g0 := neF h0; have g1 := neF h1; have g2 := neT h2; exact Obl.goal (K := fun _ => False) mix (fun _ h => h.elim) (cast (ck4nny _ a b c _).symm ⟨h0, h1, h2, congrArg (AV.int .i64) (chk2 (by omega)).symm⟩)
      | false =>
        cases h3 : (decide ((↑a.length : Int) > (64 : Int))) with
        | true =>
          have g0 := neF h0; have g1 := neF h1; have g2 := neF h2; have g3 := of_decide_eq_true h3; exact Obl.goal (K := fun _ => False) mix (fun _ h => h.elim) (cast (ck4nnny _ a b c _).symm ⟨h0, h1, h2, h3, congrArg (AV.int .i64) (chk3 (by omega) (by omega)).symm⟩)
        | false =>
          cases h4 : (decide ((↑b.length : Int) > (200 : Int))) with
          | true =>
            have g0 := neF h0; have g1 := neF h1; have g2 := neF h2; have g3 := of_decide_eq_false h3; have g4 := of_decide_eq_true h4; exact Obl.goal (K := fun _ => False) mix (fun _ h => h.elim) (cast (ck4nnnny _ a b c _).symm ⟨h0, h1, h2, h3, h4, congrArg (AV.int .i64) (chk3 (by omega) (by omega)).symm⟩)
          | false =>
            cases h5 : (decide ((↑c.length : Int) > (0 : Int))) with
            | true =>
              have g0 := neF h0; have g1 := neF h1; have g2 := neF h2; have g3 := of_decide_eq_false h3; have g4 := of_decide_eq_false h4; have g5 := of_decide_eq_true h5; exact Obl.goal (K := fun _ => False) mix (fun _ h => h.elim) (cast (ck4nnnnny _ a b c _).symm ⟨h0, h1, h2, h3, h4, h5, congrArg (AV.int .i64) (chk3 (by omega) (by omega)).symm⟩)
            | false =>
              have g0 := neF h0; have g1 := neF h1; have g2 := neF h2; have g3 := of_decide_eq_false h3; have g4 := of_decide_eq_false h4; have g5 := of_decide_eq_false h5; exact Obl.goal (K := fun _ => False) mix (fun _ h => h.elim) (cast (ck4nnnnnn _ a b c _).symm ⟨h0, h1, h2, h3, h4, h5, congrArg (AV.int .i64) (chk0 (by omega) (by omega)).symm⟩)


theorem ck5yyyy (R : AV → Prop) (a b c : List UInt8) (_K : AM → Prop) : Obl P 7 (fun v _ => R v) 0 _K [.run 248, .know 7 true, .run 49, .know 7 true, .run 49, .know 7 true, .run 133, .know 18 true, .run 26, .done] ((startM P 7 [.agg [.int .i64 5, .str a, .str b, .str c]] GW)) = (((!a == ([] : List UInt8)) = true) ∧ ((!b == ([] : List UInt8)) = true) ∧ ((!c == ([] : List UInt8)) = true) ∧ (decide ((↑a.length : Int) > (64 : Int)) = true) ∧ (R (.int .i64 3))) := by kernel_rfl

theorem ck5yyyny (R : AV → Prop) (a b c : List UInt8) (_K : AM → Prop) : Obl P 7 (fun v _ => R v) 0 _K [.run 248, .know 7 true, .run 49, .know 7 true, .run 49, .know 7 true, .run 133, .know 18 false, .run 47, .know 18 true, .run 26, .done] ((startM P 7 [.agg [.int .i64 5, .str a, .str b, .str c]] GW)) = (((!a == ([] : List UInt8)) = true) ∧ ((!b == ([] : List UInt8)) = true) ∧ ((!c == ([] : List UInt8)) = true) ∧ (decide ((↑a.length : Int) > (64 : Int)) = false) ∧ (decide ((↑b.length : Int) > (200 : Int)) = true) ∧ (R (.int .i64 3))) := by kernel_rfl

theorem ck5yyynny (R : AV → Prop) (a b c : List UInt8) (_K : AM → Prop) : Obl P 7 (fun v _ => R v) 0 _K [.run 248, .know 7 true, .run 49, .know 7 true, .run 49, .know 7 true, .run 133, .know 18 false, .run 47, .know 18 false, .run 47, .know 18 true, .run 26, .done] ((startM P 7 [.agg [.int .i64 5, .str a, .str b, .str c]] GW)) = (((!a == ([] : List UInt8)) = true) ∧ ((!b == ([] : List UInt8)) = true) ∧ ((!c == ([] : List UInt8)) = true) ∧ (decide ((↑a.length : Int) > (64 : Int)) = false) ∧ (decide ((↑b.length : Int) > (200 : Int)) = false) ∧ (decide ((↑c.length : Int) > (5000 : Int)) = true) ∧ (R (.int .i64 3))) := by kernel_rfl

theorem ck5yyynnn (R : AV → Prop) (a b c : List UInt8) (_K : AM → Prop) : Obl P 7 (fun v _ => R v) 0 _K [.run 248, .know 7 true, .run 49, .know 7 true, .run 49, .know 7 true, .run 133, .know 18 false, .run 47, .know 18 false, .run 47, .know 18 false, .run 52, .done] ((startM P 7 [.agg [.int .i64 5, .str a, .str b, .str c]] GW)) = (((!a == ([] : List UInt8)) = true) ∧ ((!b == ([] : List UInt8)) = true) ∧ ((!c == ([] : List UInt8)) = true) ∧ (decide ((↑a.length : Int) > (64 : Int)) = false) ∧ (decide ((↑b.length : Int) > (200 : Int)) = false) ∧ (decide ((↑c.length : Int) > (5000 : Int)) = false) ∧ (R (.int .i64 0))) := by kernel_rfl

theorem ck5yyny (R : AV → Prop) (a b c : List UInt8) (_K : AM → Prop) : Obl P 7 (fun v _ => R v) 0 _K [.run 248, .know 7 true, .run 49, .know 7 true, .run 49, .know 7 false, .run 133, .know 18 true, .run 26, .done] ((startM P 7 [.agg [.int .i64 5, .str a, .str b, .str c]] GW)) = (((!a == ([] : List UInt8)) = true) ∧ ((!b == ([] : List UInt8)) = true) ∧ ((!c == ([] : List UInt8)) = false) ∧ (decide ((↑a.length : Int) > (64 : Int)) = true) ∧ (R (.int .i64 3))) := by kernel_rfl

theorem ck5yynny (R : AV → Prop) (a b c : List UInt8) (_K : AM → Prop) : Obl P 7 (fun v _ => R v) 0 _K [.run 248, .know 7 true, .run 49, .know 7 true, .run 49, .know 7 false, .run 133, .know 18 false, .run 47, .know 18 true, .run 26, .done] ((startM P 7 [.agg [.int .i64 5, .str a, .str b, .str c]] GW)) = (((!a == ([] : List UInt8)) = true) ∧ ((!b == ([] : List UInt8)) = true) ∧ ((!c == ([] : List UInt8)) = false) ∧ (decide ((↑a.length : Int) > (64 : Int)) = false) ∧ (decide ((↑b.length : Int) > (200 : Int)) = true) ∧ (R (.int .i64 3))) := by kernel_rfl

theorem ck5yynnny (R : AV → Prop) (a b c : List UInt8) (_K : AM → Prop) : Obl P 7 (fun v _ => R v) 0 _K [.run 248, .know 7 true, .run 49, .know 7 true, .run 49, .know 7 false, .run 133, .know 18 false, .run 47, .know 18 false, .run 47, .know 18 true, .run 26, .done] ((startM P 7 [.agg [.int .i64 5, .str a, .str b, .str c]] GW)) = (((!a == ([] : List UInt8)) = true) ∧ ((!b == ([] : List UInt8)) = true) ∧ ((!c == ([] : List UInt8)) = false) ∧ (decide ((↑a.length : Int) > (64 : Int)) = false) ∧ (decide ((↑b.length : Int) > (200 : Int)) = false) ∧ (decide ((↑c.length : Int) > (5000 : Int)) = true) ∧ (R (.int .i64 3))) := by kernel_rfl

theorem ck5yynnnn (R : AV → Prop) (a b c : List UInt8) (_K : AM → Prop) : Obl P 7 (fun v _ => R v) 0 _K [.run 248, .know 7 true, .run 49, .know 7 true, .run 49, .know 7 false, .run 133, .know 18 false, .run 47, .know 18 false, .run 47, .know 18 false, .run 52, .done] ((startM P 7 [.agg [.int .i64 5, .str a, .str b, .str c]] GW)) = (((!a == ([] : List UInt8)) = true) ∧ ((!b == ([] : List UInt8)) = true) ∧ ((!c == ([] : List UInt8)) = false) ∧ (decide ((↑a.length : Int) > (64 : Int)) = false) ∧ (decide ((↑b.length : Int) > (200 : Int)) = false) ∧ (decide ((↑c.length : Int) > (5000 : Int)) = false) ∧ (R (.int .i64 0))) := by kernel_rfl

theorem ck5ynyy (R : AV → Prop) (a b c : List UInt8) (_K : AM → Prop) : Obl P 7 (fun v _ => R v) 0 _K [.run 248, .know 7 true, .run 49, .know 7 false, .run 49, .know 7 true, .run 133, .know 18 true, .run 26, .done] ((startM P 7 [.agg [.int .i64 5, .str a, .str b, .str c]] GW)) = (((!a == ([] : List UInt8)) = true) ∧ ((!b == ([] : List UInt8)) = false) ∧ ((!c == ([] : List UInt8)) = true) ∧ (decide ((↑a.length : Int) > (64 : Int)) = true) ∧ (R (.int .i64 3))) := by kernel_rfl

theorem ck5ynyny (R : AV → Prop) (a b c : List UInt8) (_K : AM → Prop) : Obl P 7 (fun v _ => R v) 0 _K [.run 248, .know 7 true, .run 49, .know 7 false, .run 49, .know 7 true, .run 133, .know 18 false, .run 47, .know 18 true, .run 26, .done] ((startM P 7 [.agg [.int .i64 5, .str a, .str b, .str c]] GW)) = (((!a == ([] : List UInt8)) = true) ∧ ((!b == ([] : List UInt8)) = false) ∧ ((!c == ([] : List UInt8)) = true) ∧ (decide ((↑a.length : Int) > (64 : Int)) = false) ∧ (decide ((↑b.length : Int) > (200 : Int)) = true) ∧ (R (.int .i64 3))) := by kernel_rfl

theorem ck5ynynny (R : AV → Prop) (a b c : List UInt8) (_K : AM → Prop) : Obl P 7 (fun v _ => R v) 0 _K [.run 248, .know 7 true, .run 49, .know 7 false, .run 49, .know 7 true, .run 133, .know 18 false, .run 47, .know 18 false, .run 47, .know 18 true, .run 26, .done] ((startM P 7 [.agg [.int .i64 5, .str a, .str b, .str c]] GW)) = (((!a == ([] : List UInt8)) = true) ∧ ((!b == ([] : List UInt8)) = false) ∧ ((!c == ([] : List UInt8)) = true) ∧ (decide ((↑a.length : Int) > (64 : Int)) = false) ∧ (decide ((↑b.length : Int) > (200 : Int)) = false) ∧ (decide ((↑c.length : Int) > (5000 : Int)) = true) ∧ (R (.int .i64 3))) := by kernel_rfl

theorem ck5ynynnn (R : AV → Prop) (a b c : List UInt8) (_K : AM → Prop) : Obl P 7 (fun v _ => R v) 0 _K [.run 248, .know 7 true, .run 49, .know 7 false, .run 49, .know 7 true, .run 133, .know 18 false, .run 47, .know 18 false, .run 47, .know 18 false, .run 52, .done] ((startM P 7 [.agg [.int .i64 5, .str a, .str b, .str c]] GW)) = (((!a == ([] : List UInt8)) = true) ∧ ((!b == ([] : List UInt8)) = false) ∧ ((!c == ([] : List UInt8)) = true) ∧ (decide ((↑a.length : Int) > (64 : Int)) = false) ∧ (decide ((↑b.length : Int) > (200 : Int)) = false) ∧ (decide ((↑c.length : Int) > (5000 : Int)) = false) ∧ (R (.int .i64 0))) := by kernel_rfl

theorem ck5ynny (R : AV → Prop) (a b c : List UInt8) (_K : AM → Prop) : Obl P 7 (fun v _ => R v) 0 _K [.run 248, .know 7 true, .run 49, .know 7 false, .run 49, .know 7 false, .run 133, .know 18 true, .run 26, .done] ((startM P 7 [.agg [.int .i64 5, .str a, .str b, .str c]] GW)) = (((!a == ([] : List UInt8)) = true) ∧ ((!b == ([] : List UInt8)) = false) ∧ ((!c == ([] : List UInt8)) = false) ∧ (decide ((↑a.length : Int) > (64 : Int)) = true) ∧ (R (.int .i64 3))) := by kernel_rfl

theorem ck5ynnny (R : AV → Prop) (a b c : List UInt8) (_K : AM → Prop) : Obl P 7 (fun v _ => R v) 0 _K [.run 248, .know 7 true, .run 49, .know 7 false, .run 49, .know 7 false, .run 133, .know 18 false, .run 47, .know 18 true, .run 26, .done] ((startM P 7 [.agg [.int .i64 5, .str a, .str b, .str c]] GW)) = (((!a == ([] : List UInt8)) = true) ∧ ((!b == ([] : List UInt8)) = false) ∧ ((!c == ([] : List UInt8)) = false) ∧ (decide ((↑a.length : Int) > (64 : Int)) = false) ∧ (decide ((↑b.length : Int) > (200 : Int)) = true) ∧ (R (.int .i64 3))) := by kernel_rfl

theorem ck5ynnnny (R : AV → Prop) (a b c : List UInt8) (_K : AM → Prop) : Obl P 7 (fun v _ => R v) 0 _K [.run 248, .know 7 true, .run 49, .know 7 false, .run 49, .know 7 false, .run 133, .know 18 false, .run 47, .know 18 false, .run 47, .know 18 true, .run 26, .done] ((startM P 7 [.agg [.int .i64 5, .str a, .str b, .str c]] GW)) = (((!a == ([] : List UInt8)) = true) ∧ ((!b == ([] : List UInt8)) = false) ∧ ((!c == ([] : List UInt8)) = false) ∧ (decide ((↑a.length : Int) > (64 : Int)) = false) ∧ (decide ((↑b.length : Int) > (200 : Int)) = false) ∧ (decide ((↑c.length : Int) > (5000 : Int)) = true) ∧ (R (.int .i64 3))) := by kernel_rfl

theorem ck5ynnnnn (R : AV → Prop) (a b c : List UInt8) (_K : AM → Prop) : Obl P 7 (fun v _ => R v) 0 _K [.run 248, .know 7 true, .run 49, .know 7 false, .run 49, .know 7 false, .run 133, .know 18 false, .run 47, .know 18 false, .run 47, .know 18 false, .run 52, .done] ((startM P 7 [.agg [.int .i64 5, .str a, .str b, .str c]] GW)) = (((!a == ([] : List UInt8)) = true) ∧ ((!b == ([] : List UInt8)) = false) ∧ ((!c == ([] : List UInt8)) = false) ∧ (decide ((↑a.length : Int) > (64 : Int)) = false) ∧ (decide ((↑b.length : Int) > (200 : Int)) = false) ∧ (decide ((↑c.length : Int) > (5000 : Int)) = false) ∧ (R (.int .i64 0))) := by kernel_rfl

theorem ck5nyyy (R : AV → Prop) (a b c : List UInt8) (_K : AM → Prop) : Obl P 7 (fun v _ => R v) 0 _K [.run 248, .know 7 false, .run 49, .know 7 true, .run 49, .know 7 true, .run 133, .know 18 true, .run 26, .done] ((startM P 7 [.agg [.int .i64 5, .str a, .str b, .str c]] GW)) = (((!a == ([] : List UInt8)) = false) ∧ ((!b == ([] : List UInt8)) = true) ∧ ((!c == ([] : List UInt8)) = true) ∧ (decide ((↑a.length : Int) > (64 : Int)) = true) ∧ (R (.int .i64 3))) := by kernel_rfl

theorem ck5nyyny (R : AV → Prop) (a b c : List UInt8) (_K : AM → Prop) : Obl P 7 (fun v _ => R v) 0 _K [.run 248, .know 7 false, .run 49, .know 7 true, .run 49, .know 7 true, .run 133, .know 18 false, .run 47, .know 18 true, .run 26, .done] ((startM P 7 [.agg [.int .i64 5, .str a, .str b, .str c]] GW)) = (((!a == ([] : List UInt8)) = false) ∧ ((!b == ([] : List UInt8)) = true) ∧ ((!c == ([] : List UInt8)) = true) ∧ (decide ((↑a.length : Int) > (64 : Int)) = false) ∧ (decide ((↑b.length : Int) > (200 : Int)) = true) ∧ (R (.int .i64 3))) := by kernel_rfl

theorem ck5nyynny (R : AV → Prop) (a b c : List UInt8) (_K : AM → Prop) : Obl P 7 (fun v _ => R v) 0 _K [.run 248, .know 7 false, .run 49, .know 7 true, .run 49, .know 7 true, .run 133, .know 18 false, .run 47, .know 18 false, .run 47, .know 18 true, .run 26, .done] ((startM P 7 [.agg [.int .i64 5, .str a, .str b, .str c]] GW)) = (((!a == ([] : List UInt8)) = false) ∧ ((!b == ([] : List UInt8)) = true) ∧ ((!c == ([] : List UInt8)) = true) ∧ (decide ((↑a.length : Int) > (64 : Int)) = false) ∧ (decide ((↑b.length : Int) > (200 : Int)) = false) ∧ (decide ((↑c.length : Int) > (5000 : Int)) = true) ∧ (R (.int .i64 3))) := by kernel_rfl

theorem ck5nyynnn (R : AV → Prop) (a b c : List UInt8) (_K : AM → Prop) : Obl P 7 (fun v _ => R v) 0 _K [.run 248, .know 7 false, .run 49, .know 7 true, .run 49, .know 7 true, .run 133, .know 18 false, .run 47, .know 18 false, .run 47, .know 18 false, .run 52, .done] ((startM P 7 [.agg [.int .i64 5, .str a, .str b, .str c]] GW)) = (((!a == ([] : List UInt8)) = false) ∧ ((!b == ([] : List UInt8)) = true) ∧ ((!c == ([] : List UInt8)) = true) ∧ (decide ((↑a.length : Int) > (64 : Int)) = false) ∧ (decide ((↑b.length : Int) > (200 : Int)) = false) ∧ (decide ((↑c.length : Int) > (5000 : Int)) = false) ∧ (R (.int .i64 0))) := by kernel_rfl

theorem ck5nyny (R : AV → Prop) (a b c : List UInt8) (_K : AM → Prop) : Obl P 7 (fun v _ => R v) 0 _K [.run 248, .know 7 false, .run 49, .know 7 true, .run 49, .know 7 false, .run 133, .know 18 true, .run 26, .done] ((startM P 7 [.agg [.int .i64 5, .str a, .str b, .str c]] GW)) = (((!a == ([] : List UInt8)) = false) ∧ ((!b == ([] : List UInt8)) = true) ∧ ((!c == ([] : List UInt8)) = false) ∧ (decide ((↑a.length : Int) > (64 : Int)) = true) ∧ (R (.int .i64 3))) := by kernel_rfl

theorem ck5nynny (R : AV → Prop) (a b c : List UInt8) (_K : AM → Prop) : Obl P 7 (fun v _ => R v) 0 _K [.run 248, .know 7 false, .run 49, .know 7 true, .run 49, .know 7 false, .run 133, .know 18 false, .run 47, .know 18 true, .run 26, .done] ((startM P 7 [.agg [.int .i64 5, .str a, .str b, .str c]] GW)) = (((!a == ([] : List UInt8)) = false) ∧ ((!b == ([] : List UInt8)) = true) ∧ ((!c == ([] : List UInt8)) = false) ∧ (decide ((↑a.length : Int) > (64 : Int)) = false) ∧ (decide ((↑b.length : Int) > (200 : Int)) = true) ∧ (R (.int .i64 3))) := by kernel_rfl

theorem ck5nynnny (R : AV → Prop) (a b c : List UInt8) (_K : AM → Prop) : Obl P 7 (fun v _ => R v) 0 _K [.run 248, .know 7 false, .run 49, .know 7 true, .run 49, .know 7 false, .run 133, .know 18 false, .run 47, .know 18 false, .run 47, .know 18 true, .run 26, .done] ((startM P 7 [.agg [.int .i64 5, .str a, .str b, .str c]] GW)) = (((!a == ([] : List UInt8)) = false) ∧ ((!b == ([] : List UInt8)) = true) ∧ ((!c == ([] : List UInt8)) = false) ∧ (decide ((↑a.length : Int) > (64 : Int)) = false) ∧ (decide ((↑b.length : Int) > (200 : Int)) = false) ∧ (decide ((↑c.length : Int) > (5000 : Int)) = true) ∧ (R (.int .i64 3))) := by kernel_rfl

theorem ck5nynnnn (R : AV → Prop) (a b c : List UInt8) (_K : AM → Prop) : Obl P 7 (fun v _ => R v) 0 _K [.run 248, .know 7 false, .run 49, .know 7 true, .run 49, .know 7 false, .run 133, .know 18 false, .run 47, .know 18 false, .run 47, .know 18 false, .run 52, .done] ((startM P 7 [.agg [.int .i64 5, .str a, .str b, .str c]] GW)) = (((!a == ([] : List UInt8)) = false) ∧ ((!b == ([] : List UInt8)) = true) ∧ ((!c == ([] : List UInt8)) = false) ∧ (decide ((↑a.length : Int) > (64 : Int)) = false) ∧ (decide ((↑b.length : Int) > (200 : Int)) = false) ∧ (decide ((↑c.length : Int) > (5000 : Int)) = false) ∧ (R (.int .i64 0))) := by kernel_rfl

theorem ck5nnyy (R : AV → Prop) (a b c : List UInt8) (_K : AM → Prop) : Obl P 7 (fun v _ => R v) 0 _K [.run 248, .know 7 false, .run 49, .know 7 false, .run 49, .know 7 true, .run 133, .know 18 true, .run 26, .done] ((startM P 7 [.agg [.int .i64 5, .str a, .str b, .str c]] GW)) = (((!a == ([] : List UInt8)) = false) ∧ ((!b == ([] : List UInt8)) = false) ∧ ((!c == ([] : List UInt8)) = true) ∧ (decide ((↑a.length : Int) > (64 : Int)) = true) ∧ (R (.int .i64 3))) := by kernel_rfl

theorem ck5nnyny (R : AV → Prop) (a b c : List UInt8) (_K : AM → Prop) : Obl P 7 (fun v _ => R v) 0 _K [.run 248, .know 7 false, .run 49, .know 7 false, .run 49, .know 7 true, .run 133, .know 18 false, .run 47, .know 18 true, .run 26, .done] ((startM P 7 [.agg [.int .i64 5, .str a, .str b, .str c]] GW)) = (((!a == ([] : List UInt8)) = false) ∧ ((!b == ([] : List UInt8)) = false) ∧ ((!c == ([] : List UInt8)) = true) ∧ (decide ((↑a.length : Int) > (64 : Int)) = false) ∧ (decide ((↑b.length : Int) > (200 : Int)) = true) ∧ (R (.int .i64 3))) := by kernel_rfl

theorem ck5nnynny (R : AV → Prop) (a b c : List UInt8) (_K : AM → Prop) : Obl P 7 (fun v _ => R v) 0 _K [.run 248, .know 7 false, .run 49, .know 7 false, .run 49, .know 7 true, .run 133, .know 18 false, .run 47, .know 18 false, .run 47, .know 18 true, .run 26, .done] ((startM P 7 [.agg [.int .i64 5, .str a, .str b, .str c]] GW)) = (((!a == ([] : List UInt8)) = false) ∧ ((!b == ([] : List UInt8)) = false) ∧ ((!c == ([] : List UInt8)) = true) ∧ (decide ((↑a.length : Int) > (64 : Int)) = false) ∧ (decide ((↑b.length : Int) > (200 : Int)) = false) ∧ (decide ((↑c.length : Int) > (5000 : Int)) = true) ∧ (R (.int .i64 3))) := by kernel_rfl

theorem ck5nnynnn (R : AV → Prop) (a b c : List UInt8) (_K : AM → Prop) : Obl P 7 (fun v _ => R v) 0 _K [.run 248, .know 7 false, .run 49, .know 7 false, .run 49, .know 7 true, .run 133, .know 18 false, .run 47, .know 18 false, .run 47, .know 18 false, .run 52, .done] ((startM P 7 [.agg [.int .i64 5, .str a, .str b, .str c]] GW)) = (((!a == ([] : List UInt8)) = false) ∧ ((!b == ([] : List UInt8)) = false) ∧ ((!c == ([] : List UInt8)) = true) ∧ (decide ((↑a.length : Int) > (64 : Int)) = false) ∧ (decide ((↑b.length : Int) > (200 : Int)) = false) ∧ (decide ((↑c.length : Int) > (5000 : Int)) = false) ∧ (R (.int .i64 0))) := by kernel_rfl

theorem ck5nnny (R : AV → Prop) (a b c : List UInt8) (_K : AM → Prop) : Obl P 7 (fun v _ => R v) 0 _K [.run 248, .know 7 false, .run 49, .know 7 false, .run 49, .know 7 false, .run 133, .know 18 true, .run 26, .done] ((startM P 7 [.agg [.int .i64 5, .str a, .str b, .str c]] GW)) = (((!a == ([] : List UInt8)) = false) ∧ ((!b == ([] : List UInt8)) = false) ∧ ((!c == ([] : List UInt8)) = false) ∧ (decide ((↑a.length : Int) > (64 : Int)) = true) ∧ (R (.int .i64 3))) := by kernel_rfl

theorem ck5nnnny (R : AV → Prop) (a b c : List UInt8) (_K : AM → Prop) : Obl P 7 (fun v _ => R v) 0 _K [.run 248, .know 7 false, .run 49, .know 7 false, .run 49, .know 7 false, .run 133, .know 18 false, .run 47, .know 18 true, .run 26, .done] ((startM P 7 [.agg [.int .i64 5, .str a, .str b, .str c]] GW)) = (((!a == ([] : List UInt8)) = false) ∧ ((!b == ([] : List UInt8)) = false) ∧ ((!c == ([] : List UInt8)) = false) ∧ (decide ((↑a.length : Int) > (64 : Int)) = false) ∧ (decide ((↑b.length : Int) > (200 : Int)) = true) ∧ (R (.int .i64 3))) := by kernel_rfl

theorem ck5nnnnny (R : AV → Prop) (a b c : List UInt8) (_K : AM → Prop) : Obl P 7 (fun v _ => R v) 0 _K [.run 248, .know 7 false, .run 49, .know 7 false, .run 49, .know 7 false, .run 133, .know 18 false, .run 47, .know 18 false, .run 47, .know 18 true, .run 26, .done] ((startM P 7 [.agg [.int .i64 5, .str a, .str b, .str c]] GW)) = (((!a == ([] : List UInt8)) = false) ∧ ((!b == ([] : List UInt8)) = false) ∧ ((!c == ([] : List UInt8)) = false) ∧ (decide ((↑a.length : Int) > (64 : Int)) = false) ∧ (decide ((↑b.length : Int) > (200 : Int)) = false) ∧ (decide ((↑c.length : Int) > (5000 : Int)) = true) ∧ (R (.int .i64 3))) := by kernel_rfl

theorem ck5nnnnnn (R : AV → Prop) (a b c : List UInt8) (_K : AM → Prop) : Obl P 7 (fun v _ => R v) 0 _K [.run 248, .know 7 false, .run 49, .know 7 false, .run 49, .know 7 false, .run 133, .know 18 false, .run 47, .know 18 false, .run 47, .know 18 false, .run 52, .done] ((startM P 7 [.agg [.int .i64 5, .str a, .str b, .str c]] GW)) = (((!a == ([] : List UInt8)) = false) ∧ ((!b == ([] : List UInt8)) = false) ∧ ((!c == ([] : List UInt8)) = false) ∧ (decide ((↑a.length : Int) > (64 : Int)) = false) ∧ (decide ((↑b.length : Int) > (200 : Int)) = false) ∧ (decide ((↑c.length : Int) > (5000 : Int)) = false) ∧ (R (.int .i64 0))) := by kernel_rfl

theorem ck5_ok (a b c : List UInt8) : Goal P 0 7 (fun v _ => v = .int .i64 (chkL 64 200 5000 a b c)) (startM P 7 [.agg [.int .i64 5, .str a, .str b, .str c]] GW) := by
  cases h0 : ((!a == ([] : List UInt8))) with
  | true =>
    cases h1 : ((!b == ([] : List UInt8))) with
    | true =>
      cases h2 : ((!c == ([] : List UInt8))) with
      | true =>
        cases h3 : (decide ((↑a.length : Int) > (64 : Int))) with
        | true =>
          have g0 := neT h0; have g1 := neT h1; have g2 := neT h2; have g3 := of_decide_eq_true h3; exact Obl.goal (K := fun _ => False) mix (fun _ h => h.elim) (cast (ck5yyyy _ a b c _).symm ⟨h0, h1, h2, h3, congrArg (AV.int .i64) (chk3 (by omega) (by omega)).symm⟩)
        | false =>
          cases h4 : (decide ((↑b.length : Int) > (200 : Int))) with
          | true =>
            have g0 := neT h0; have g1 := neT h1; have g2 := neT h2; have g3 := of_decide_eq_false h3; have g4 := of_decide_eq_true h4; exact Obl.goal (K := fun _ => False) mix (fun _ h => h.elim) (cast (ck5yyyny _ a b c _).symm ⟨h0, h1, h2, h3, h4, congrArg (AV.int .i64) (chk3 (by omega) (by omega)).symm⟩)
          | false =>
            cases h5 : (decide ((↑c.length : Int) > (5000 : Int))) with
            | true =>
              have g0 := neT h0; have g1 := neT h1; have g2 := neT h2; have g3 := of_decide_eq_false h3; have g4 := of_decide_eq_false h4; have g5 := of_decide_eq_true h5; exact Obl.goal (K := fun _ => False) mix (fun _ h => h.elim) (cast (ck5yyynny _ a b c _).symm ⟨h0, h1, h2, h3, h4, h5, congrArg (AV.int .i64) (chk3 (by omega) (by omega)).symm⟩)
            | false =>
              have g0 := neT h0; have g1 := neT h1; have g2 := neT h2; have g3 := of_decide_eq_false h3; have g4 := of_decide_eq_false h4; have g5 := of_decide_eq_false h5; exact Obl.goal (K := fun _ => False) mix (fun _ h => h.elim) (cast (ck5yyynnn _ a b c _).symm ⟨h0, h1, h2, h3, h4, h5, congrArg (AV.int .i64) (chk0 (by omega) (by omega)).symm⟩)
      | false =>
        cases h3 : (decide ((↑a.length : Int) > (64 : Int))) with
        | true =>
          have g0 := neT h0; have g1 := neT h1; have g2 := neF h2; have g3 := of_decide_eq_true h3; exact Obl.goal (K := fun _ => False) mix (fun _ h => h.elim) (cast (ck5yyny _ a b c _).symm ⟨h0, h1, h2, h3, congrArg (AV.int .i64) (chk3 (by omega) (by omega)).symm⟩)
        | false =>
          cases h4 : (decide ((↑b.length : Int) > (200 : Int))) with
          | true =>
            have g0 := neT h0; have g1 := neT h1; have g2 := neF h2; have g3 := of_decide_eq_false h3; have g4 := of_decide_eq_true h4; exact Obl.goal (K := fun _ => False) mix (fun _ h => h.elim) (cast (ck5yynny _ a b c _).symm ⟨h0, h1, h2, h3, h4, congrArg (AV.int .i64) (chk3 (by omega) (by omega)).symm⟩)
          | false =>
            cases h5 : (decide ((↑c.length : Int) > (5000 : Int))) with
            | true =>
              have g0 := neT h0; have g1 := neT h1; have g2 := neF h2; have g3 := of_decide_eq_false h3; have g4 := of_decide_eq_false h4; have g5 := of_decide_eq_true h5; exact Obl.goal (K := fun _ => False) mix (fun _ h => h.elim) (cast (ck5yynnny _ a b c _).symm ⟨h0, h1, h2, h3, h4, h5, congrArg (AV.int .i64) (chk3 (by omega) (by omega)).symm⟩)
            | false =>
              have g0 := neT h0; have g1 := neT h1; have g2 := neF h2; have g3 := of_decide_eq_false h3; have g4 := of_decide_eq_false h4; have g5 := of_decide_eq_false h5; exact Obl.goal (K := fun _ => False) mix (fun _ h => h.elim) (cast (ck5yynnnn _ a b c _).symm ⟨h0, h1, h2, h3, h4, h5, congrArg (AV.int .i64) (chk0 (by omega) (by omega)).symm⟩)
    | false =>
      cases h2 : ((!c == ([] : List UInt8))) with
      | true =>
        cases h3 : (decide ((↑a.length : Int) > (64 : Int))) with
        | true =>
          have g0 := neT h0; have g1 := neF h1; have g2 := neT h2; have g3 := of_decide_eq_true h3; exact Obl.goal (K := fun _ => False) mix (fun _ h => h.elim) (cast (ck5ynyy _ a b c _).symm ⟨h0, h1, h2, h3, congrArg (AV.int .i64) (chk3 (by omega) (by omega)).symm⟩)
        | false =>
          cases h4 : (decide ((↑b.length : Int) > (200 : Int))) with
          | true =>
            have g0 := neT h0; have g1 := neF h1; have g2 := neT h2; have g3 := of_decide_eq_false h3; have g4 := of_decide_eq_true h4; exact Obl.goal (K := fun _ => False) mix (fun _ h => h.elim) (cast (ck5ynyny _ a b c _).symm ⟨h0, h1, h2, h3, h4, congrArg (AV.int .i64) (chk3 (by omega) (by omega)).symm⟩)
          | false =>
            cases h5 : (decide ((↑c.length : Int) > (5000 : Int))) with
            | true =>
              have g0 := neT h0; have g1 := neF h1; have g2 := neT h2; have g3 := of_decide_eq_false h3; have g4 := of_decide_eq_false h4; have g5 := of_decide_eq_true h5; exact Obl.goal (K := fun _ => False) mix (fun _ h => h.elim) (cast (ck5ynynny _ a b c _).symm ⟨h0, h1, h2, h3, h4, h5, congrArg (AV.int .i64) (chk3 (by omega) (by omega)).symm⟩)
            | false =>
              have g0 := neT h0; have g1 := neF h1; have g2 := neT h2; have g3 := of_decide_eq_false h3; have g4 := of_decide_eq_false h4; have g5 := of_decide_eq_false h5; exact Obl.goal (K := fun _ => False) mix (fun _ h => h.elim) (cast (ck5ynynnn _ a b c _).symm ⟨h0, h1, h2, h3, h4, h5, congrArg (AV.int .i64) (chk0 (by omega) (by omega)).symm⟩)
      | false =>
        cases h3 : (decide ((↑a.length : Int) > (64 : Int))) with
        | true =>
          have g0 := neT h0; have g1 := neF h1; have g2 := neF h2; have g3 := of_decide_eq_true h3; exact Obl.goal (K := fun _ => False) mix (fun _ h => h.elim) (cast (ck5ynny _ a b c _).symm ⟨h0, h1, h2, h3, congrArg (AV.int .i64) (chk3 (by omega) (by omega)).symm⟩)
        | false =>
          cases h4 : (decide ((↑b.length : Int) > (200 : Int))) with
          | true =>
            have g0 := neT h0; have g1 := neF h1; have g2 := neF h2; have g3 := of_decide_eq_false h3; have g4 := of_decide_eq_true h4; exact Obl.goal (K := fun _ => False) mix (fun _ h => h.elim) (cast (ck5ynnny _ a b c _).symm ⟨h0, h1, h2, h3, h4, congrArg (AV.int .i64) (chk3 (by omega) (by omega)).symm⟩)
          | false =>
            cases h5 : (decide ((↑c.length : Int) > (5000 : Int))) with
            | true =>
              have g0 := neT h0; have g1 := neF h1; have g2 := neF h2; have g3 := of_decide_eq_false h3; have g4 := of_decide_eq_false h4; have g5 := of_decide_eq_true h5; exact Obl.goal (K := fun _ => False) mix (fun _ h => h.elim) (cast (ck5ynnnny _ a b c _).symm ⟨h0, h1, h2, h3, h4, h5, congrArg (AV.int .i64) (chk3 (by omega) (by omega)).symm⟩)
            | false =>
              have g0 := neT h0; have g1 := neF h1; have g2 := neF h2; have g3 := of_decide_eq_false h3; have g4 := of_decide_eq_false h4; have g5 := of_decide_eq_false h5; exact Obl.goal (K := fun _ => False) mix (fun _ h => h.elim) (cast (ck5ynnnnn _ a b c _).symm ⟨h0, h1, h2, h3, h4, h5, congrArg (AV.int .i64) (chk0 (by omega) (by omega)).symm⟩)
  | false =>
    cases h1 : ((!b == ([] : List UInt8))) with
    | true =>
      cases h2 : ((!c == ([] : List UInt8))) with
      | true =>
        cases h3 : (decide ((↑a.length : Int) > (64 : Int))) with
        | true =>
          have g0 := neF h0; have g1 := neT h1; have g2 := neT h2; have g3 := of_decide_eq_true h3; exact Obl.goal (K := fun _ => False) mix (fun _ h => h.elim) (cast (ck5nyyy _ a b c _).symm ⟨h0, h1, h2, h3, congrArg (AV.int .i64) (chk3 (by omega) (by omega)).symm⟩)
        | false =>
          cases h4 : (decide ((↑b.length : Int) > (200 : Int))) with
          | true =>
            have g0 := neF h0; have g1 := neT h1; have g2 := neT h2; have g3 := of_decide_eq_false h3; have g4 := of_decide_eq_true h4; exact Obl.goal (K := fun _ => False) mix (fun _ h => h.elim) (cast (ck5nyyny _ a b c _).symm ⟨h0, h1, h2, h3, h4, congrArg (AV.int .i64) (chk3 (by omega) (by omega)).symm⟩)
          | false =>
            cases h5 : (decide ((↑c.length : Int) > (5000 : Int))) with
            | true =>
              have g0 := neF h0; have g1 := neT h1; have g2 := neT h2; have g3 := of_decide_eq_false h3; have g4 := of_decide_eq_false h4; have g5 := of_decide_eq_true h5; exact Obl.goal (K := fun _ => False) mix (fun _ h => h.elim) (cast (ck5nyynny _ a b c _).symm ⟨h0, h1, h2, h3, h4, h5, congrArg (AV.int .i64) (chk3 (by omega) (by omega)).symm⟩)
            | false =>
              have g0 := neF h0; have g1 := neT h1; have g2 := neT h2; have g3 := of_decide_eq_false h3; have g4 := of_decide_eq_false h4; have g5 := of_decide_eq_false h5; exact Obl.goal (K := fun _ => False) mix (fun _ h => h.elim) (cast (ck5nyynnn _ a b c _).symm ⟨h0, h1, h2, h3, h4, h5, congrArg (AV.int .i64) (chk0 (by omega) (by omega)).symm⟩)
      | false =>
        cases h3 : (decide ((↑a.length : Int) > (64 : Int))) with
        | true =>
          have g0 := neF h0; have g1 := neT h1; have g2 := neF h2; have g3 := of_decide_eq_true h3; exact Obl.goal (K := fun _ => False) mix (fun _ h => h.elim) (cast (ck5nyny _ a b c _).symm ⟨h0, h1, h2, h3, congrArg (AV.int .i64) (chk3 (by omega) (by omega)).symm⟩)
        | false =>
          cases h4 : (decide ((↑b.length : Int) > (200 : Int))) with
          | true =>
            have g0 := neF h0; have g1 := neT h1; have g2 := neF h2; have g3 := of_decide_eq_false h3; have g4 := of_decide_eq_true h4; exact Obl.goal (K := fun _ => False) mix (fun _ h => h.elim) (cast (ck5nynny _ a b c _).symm ⟨h0, h1, h2, h3, h4, congrArg (AV.int .i64) (chk3 (by omega) (by omega)).symm⟩)
          | false =>
            cases h5 : (decide ((↑c.length : Int) > (5000 : Int))) with
            | true =>
              have g0 := neF h0; have g1 := neT h1; have g2 := neF h2; have g3 := of_decide_eq_false h3; have g4 := of_decide_eq_false h4; have g5 := of_decide_eq_true h5; exact Obl.goal (K := fun _ => False) mix (fun _ h => h.elim) (cast (ck5nynnny _ a b c _).symm ⟨h0, h1, h2, h3, h4, h5, congrArg (AV.int .i64) (chk3 (by omega) (by omega)).symm⟩)
            | false =>
              have g0 := neF h0; have g1 := neT h1; have g2 := neF h2; have g3 := of_decide_eq_false h3; have g4 := of_decide_eq_false h4; have g5 := of_decide_eq_false h5; exact Obl.goal (K := fun _ => False) mix (fun _ h => h.elim) (cast (ck5nynnnn _ a b c _).symm ⟨h0, h1, h2, h3, h4, h5, congrArg (AV.int .i64) (chk0 (by omega) (by omega)).symm⟩)
    | false =>
      cases h2 : ((!c == ([] : List UInt8))) with
      | true =>
        cases h3 : (decide ((↑a.length : Int) > (64 : Int))) with
        | true =>
          have g0 := neF h0; have g1 := neF h1; have g2 := neT h2; have g3 := of_decide_eq_true h3; exact Obl.goal (K := fun _ => False) mix (fun _ h => h.elim) (cast (ck5nnyy _ a b c _).symm ⟨h0, h1, h2, h3, congrArg (AV.int .i64) (chk3 (by omega) (by omega)).symm⟩)
        | false =>
          cases h4 : (decide ((↑b.length : Int) > (200 : Int))) with
          | true =>
            have g0 := neF h0; have g1 := neF h1; have g2 := neT h2; have g3 := of_decide_eq_false h3; have g4 := of_decide_eq_true h4; exact Obl.goal (K := fun _ => False) mix (fun _ h => h.elim) (cast (ck5nnyny _ a b c _).symm ⟨h0, h1, h2, h3, h4, congrArg (AV.int .i64) (chk3 (by omega) (by omega)).symm⟩)
          | false =>
            cases h5 : (decide ((↑c.length : Int) > (5000 : Int))) with
            | true =>
              have g0 := neF h0; have g1 := neF h1; have g2 := neT h2; have g3 := of_decide_eq_false h3; have g4 := of_decide_eq_false h4; have g5 := of_decide_eq_true h5; exact Obl.goal (K := fun _ => False) mix (fun _ h => h.elim) (cast (ck5nnynny _ a b c _).symm ⟨h0, h1, h2, h3, h4, h5, congrArg (AV.int .i64) (chk3 (by omega) (by omega)).symm⟩)
            | false =>
              have g0 := neF h0; have g1 := neF h1; have g2 := neT h2; have g3 := of_decide_eq_false h3; have g4 := of_decide_eq_false h4; have g5 := of_decide_eq_false h5; exact Obl.goal (K := fun _ => False) mix (fun _ h => h.elim) (cast (ck5nnynnn _ a b c _).symm ⟨h0, h1, h2, h3, h4, h5, congrArg (AV.int .i64) (chk0 (by omega) (by omega)).symm⟩)
      | false =>
        cases h3 : (decide ((↑a.length : Int) > (64 : Int))) with
        | true =>
          have g0 := neF h0; have g1 := neF h1; have g2 := neF h2; have g3 := of_decide_eq_true h3; exact Obl.goal (K := fun _ => False) mix (fun _ h => h.elim) (cast (ck5nnny _ a b c _).symm ⟨h0, h1, h2, h3, congrArg (AV.int .i64) (chk3 (by omega) (by omega)).symm⟩)
        | false =>
          cases h4 : (decide ((↑b.length : Int) > (200 : Int))) with
          | true =>
            have g0 := neF h0; have g1 := neF h1; have g2 := neF h2; have g3 := of_decide_eq_false h3; have g4 := of_decide_eq_true h4; exact Obl.goal (K := fun _ => False) mix (fun _ h => h.elim) (cast (ck5nnnny _ a b c _).symm ⟨h0, h1, h2, h3, h4, congrArg (AV.int .i64) (chk3 (by omega) (by omega)).symm⟩)
          | false =>
            cases h5 : (decide ((↑c.length : Int) > (5000 : Int))) with
            | true =>
              have g0 := neF h0; have g1 := neF h1; have g2 := neF h2; have g3 := of_decide_eq_false h3; have g4 := of_decide_eq_false h4; have g5 := of_decide_eq_true h5; exact Obl.goal (K := fun _ => False) mix (fun _ h => h.elim) (cast (ck5nnnnny _ a b c _).symm ⟨h0, h1, h2, h3, h4, h5, congrArg (AV.int .i64) (chk3 (by omega) (by omega)).symm⟩)
            | false =>
              have g0 := neF h0; have g1 := neF h1; have g2 := neF h2; have g3 := of_decide_eq_false h3; have g4 := of_decide_eq_false h4; have g5 := of_decide_eq_false h5; exact Obl.goal (K := fun _ => False) mix (fun _ h => h.elim) (cast (ck5nnnnnn _ a b c _).symm ⟨h0, h1, h2, h3, h4, h5, congrArg (AV.int .i64) (chk0 (by omega) (by omega)).symm⟩)

end Go.Proofs.YtclfckjhillfpaaDoor.mq
