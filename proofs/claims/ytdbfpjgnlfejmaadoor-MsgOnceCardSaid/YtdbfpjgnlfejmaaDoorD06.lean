import Derived.Deep.Slices
import Derived.Deep.Strs
import Derived.OpenShut
import Derived.Test.YtdbfpjgnlfejmaaDoorD00
import Derived.Test.YtdbfpjgnlfejmaaDoorD01
import Derived.Test.YtdbfpjgnlfejmaaDoorD02
import Derived.Test.YtdbfpjgnlfejmaaDoorD03
import Derived.Test.YtdbfpjgnlfejmaaDoorD04
import Derived.Test.YtdbfpjgnlfejmaaDoorD05
section
set_option maxRecDepth 100000
set_option linter.unusedVariables false
namespace Go.Proofs.YtdbfpjgnlfejmaaDoor.mq
open Go Ev
section
set_option linter.unusedSectionVars false
variable (R : AV → Prop) (a b c : List UInt8) (_K : AM → Prop)
include R a b c _K
theorem ck1y : Obl P 64 (fun v _ => R v) 0 _K [.run 248, .know 7 true, .run 34, .done] ((zc P 64 [.agg [.int .i64 1, .str a, .str b, .str c]] GW)) = (((!a == ([] : List UInt8)) = true) ∧ (R (.int .i64 2))) := by kernel_rfl
theorem ck1ny : Obl P 64 (fun v _ => R v) 0 _K [.run 248, .know 7 false, .run 49, .know 7 true, .run 34, .done] ((zc P 64 [.agg [.int .i64 1, .str a, .str b, .str c]] GW)) = (((!a == ([] : List UInt8)) = false) ∧ ((!b == ([] : List UInt8)) = true) ∧ (R (.int .i64 2))) := by kernel_rfl
theorem zm0 : Obl P 64 (fun v _ => R v) 0 _K [.run 248, .know 7 false, .run 49, .know 7 false, .run 49, .know 7 true, .run 133, .know 18 true, .run 26, .done] ((zc P 64 [.agg [.int .i64 1, .str a, .str b, .str c]] GW)) = (((!a == ([] : List UInt8)) = false) ∧ ((!b == ([] : List UInt8)) = false) ∧ ((!c == ([] : List UInt8)) = true) ∧ (decide ((↑a.length : Int) > (0 : Int)) = true) ∧ (R (.int .i64 3))) := by kernel_rfl
theorem zkv : Obl P 64 (fun v _ => R v) 0 _K [.run 248, .know 7 false, .run 49, .know 7 false, .run 49, .know 7 true, .run 133, .know 18 false, .run 47, .know 18 true, .run 26, .done] ((zc P 64 [.agg [.int .i64 1, .str a, .str b, .str c]] GW)) = (((!a == ([] : List UInt8)) = false) ∧ ((!b == ([] : List UInt8)) = false) ∧ ((!c == ([] : List UInt8)) = true) ∧ (decide ((↑a.length : Int) > (0 : Int)) = false) ∧ (decide ((↑b.length : Int) > (0 : Int)) = true) ∧ (R (.int .i64 3))) := by kernel_rfl
theorem zjx : Obl P 64 (fun v _ => R v) 0 _K [.run 248, .know 7 false, .run 49, .know 7 false, .run 49, .know 7 true, .run 133, .know 18 false, .run 47, .know 18 false, .run 47, .know 18 true, .run 26, .done] ((zc P 64 [.agg [.int .i64 1, .str a, .str b, .str c]] GW)) = (((!a == ([] : List UInt8)) = false) ∧ ((!b == ([] : List UInt8)) = false) ∧ ((!c == ([] : List UInt8)) = true) ∧ (decide ((↑a.length : Int) > (0 : Int)) = false) ∧ (decide ((↑b.length : Int) > (0 : Int)) = false) ∧ (decide ((↑c.length : Int) > (5000 : Int)) = true) ∧ (R (.int .i64 3))) := by kernel_rfl
theorem zhP : Obl P 64 (fun v _ => R v) 0 _K [.run 248, .know 7 false, .run 49, .know 7 false, .run 49, .know 7 true, .run 133, .know 18 false, .run 47, .know 18 false, .run 47, .know 18 false, .run 52, .done] ((zc P 64 [.agg [.int .i64 1, .str a, .str b, .str c]] GW)) = (((!a == ([] : List UInt8)) = false) ∧ ((!b == ([] : List UInt8)) = false) ∧ ((!c == ([] : List UInt8)) = true) ∧ (decide ((↑a.length : Int) > (0 : Int)) = false) ∧ (decide ((↑b.length : Int) > (0 : Int)) = false) ∧ (decide ((↑c.length : Int) > (5000 : Int)) = false) ∧ (R (.int .i64 0))) := by kernel_rfl
theorem znI : Obl P 64 (fun v _ => R v) 0 _K [.run 248, .know 7 false, .run 49, .know 7 false, .run 49, .know 7 false, .run 133, .know 18 true, .run 26, .done] ((zc P 64 [.agg [.int .i64 1, .str a, .str b, .str c]] GW)) = (((!a == ([] : List UInt8)) = false) ∧ ((!b == ([] : List UInt8)) = false) ∧ ((!c == ([] : List UInt8)) = false) ∧ (decide ((↑a.length : Int) > (0 : Int)) = true) ∧ (R (.int .i64 3))) := by kernel_rfl
theorem zki : Obl P 64 (fun v _ => R v) 0 _K [.run 248, .know 7 false, .run 49, .know 7 false, .run 49, .know 7 false, .run 133, .know 18 false, .run 47, .know 18 true, .run 26, .done] ((zc P 64 [.agg [.int .i64 1, .str a, .str b, .str c]] GW)) = (((!a == ([] : List UInt8)) = false) ∧ ((!b == ([] : List UInt8)) = false) ∧ ((!c == ([] : List UInt8)) = false) ∧ (decide ((↑a.length : Int) > (0 : Int)) = false) ∧ (decide ((↑b.length : Int) > (0 : Int)) = true) ∧ (R (.int .i64 3))) := by kernel_rfl
theorem zgW : Obl P 64 (fun v _ => R v) 0 _K [.run 248, .know 7 false, .run 49, .know 7 false, .run 49, .know 7 false, .run 133, .know 18 false, .run 47, .know 18 false, .run 47, .know 18 true, .run 26, .done] ((zc P 64 [.agg [.int .i64 1, .str a, .str b, .str c]] GW)) = (((!a == ([] : List UInt8)) = false) ∧ ((!b == ([] : List UInt8)) = false) ∧ ((!c == ([] : List UInt8)) = false) ∧ (decide ((↑a.length : Int) > (0 : Int)) = false) ∧ (decide ((↑b.length : Int) > (0 : Int)) = false) ∧ (decide ((↑c.length : Int) > (5000 : Int)) = true) ∧ (R (.int .i64 3))) := by kernel_rfl
theorem zhj : Obl P 64 (fun v _ => R v) 0 _K [.run 248, .know 7 false, .run 49, .know 7 false, .run 49, .know 7 false, .run 133, .know 18 false, .run 47, .know 18 false, .run 47, .know 18 false, .run 52, .done] ((zc P 64 [.agg [.int .i64 1, .str a, .str b, .str c]] GW)) = (((!a == ([] : List UInt8)) = false) ∧ ((!b == ([] : List UInt8)) = false) ∧ ((!c == ([] : List UInt8)) = false) ∧ (decide ((↑a.length : Int) > (0 : Int)) = false) ∧ (decide ((↑b.length : Int) > (0 : Int)) = false) ∧ (decide ((↑c.length : Int) > (5000 : Int)) = false) ∧ (R (.int .i64 0))) := by kernel_rfl
end
theorem zoR (a b c : List UInt8) : Goal P 0 64 (fun v _ => v = .int .i64 (zd2 0 0 5000 a b c)) (zc P 64 [.agg [.int .i64 1, .str a, .str b, .str c]] GW) := by
 cases h0 : ((!a == ([] : List UInt8))) with
 | true =>
  have g0 := neT h0; exact Obl.goal (K := fun _ => False) mix (fun _ h => h.elim) (cast (ck1y _ a b c _).symm ⟨h0, congrArg (AV.int .i64) (zaP (by omega)).symm⟩)
 | false =>
  cases h1 : ((!b == ([] : List UInt8))) with
  | true =>
   have g0 := neF h0; have g1 := neT h1; exact Obl.goal (K := fun _ => False) mix (fun _ h => h.elim) (cast (ck1ny _ a b c _).symm ⟨h0, h1, congrArg (AV.int .i64) (zaP (by omega)).symm⟩)
  | false =>
   cases h2 : ((!c == ([] : List UInt8))) with
   | true =>
    cases h3 : (decide ((↑a.length : Int) > (0 : Int))) with
    | true =>
     have g0 := neF h0; have g1 := neF h1; have g2 := neT h2; have g3 := of_decide_eq_true h3; exact Obl.goal (K := fun _ => False) mix (fun _ h => h.elim) (cast (zm0 _ a b c _).symm ⟨h0, h1, h2, h3, congrArg (AV.int .i64) (zA (by omega) (by omega)).symm⟩)
    | false =>
     cases h4 : (decide ((↑b.length : Int) > (0 : Int))) with
     | true =>
      have g0 := neF h0; have g1 := neF h1; have g2 := neT h2; have g3 := of_decide_eq_false h3; have g4 := of_decide_eq_true h4; exact Obl.goal (K := fun _ => False) mix (fun _ h => h.elim) (cast (zkv _ a b c _).symm ⟨h0, h1, h2, h3, h4, congrArg (AV.int .i64) (zA (by omega) (by omega)).symm⟩)
     | false =>
      cases h5 : (decide ((↑c.length : Int) > (5000 : Int))) with
      | true =>
       have g0 := neF h0; have g1 := neF h1; have g2 := neT h2; have g3 := of_decide_eq_false h3; have g4 := of_decide_eq_false h4; have g5 := of_decide_eq_true h5; exact Obl.goal (K := fun _ => False) mix (fun _ h => h.elim) (cast (zjx _ a b c _).symm ⟨h0, h1, h2, h3, h4, h5, congrArg (AV.int .i64) (zA (by omega) (by omega)).symm⟩)
      | false =>
       have g0 := neF h0; have g1 := neF h1; have g2 := neT h2; have g3 := of_decide_eq_false h3; have g4 := of_decide_eq_false h4; have g5 := of_decide_eq_false h5; exact Obl.goal (K := fun _ => False) mix (fun _ h => h.elim) (cast (zhP _ a b c _).symm ⟨h0, h1, h2, h3, h4, h5, congrArg (AV.int .i64) (qi (by omega) (by omega)).symm⟩)
   | false =>
    cases h3 : (decide ((↑a.length : Int) > (0 : Int))) with
    | true =>
     have g0 := neF h0; have g1 := neF h1; have g2 := neF h2; have g3 := of_decide_eq_true h3; exact Obl.goal (K := fun _ => False) mix (fun _ h => h.elim) (cast (znI _ a b c _).symm ⟨h0, h1, h2, h3, congrArg (AV.int .i64) (zA (by omega) (by omega)).symm⟩)
    | false =>
     cases h4 : (decide ((↑b.length : Int) > (0 : Int))) with
     | true =>
      have g0 := neF h0; have g1 := neF h1; have g2 := neF h2; have g3 := of_decide_eq_false h3; have g4 := of_decide_eq_true h4; exact Obl.goal (K := fun _ => False) mix (fun _ h => h.elim) (cast (zki _ a b c _).symm ⟨h0, h1, h2, h3, h4, congrArg (AV.int .i64) (zA (by omega) (by omega)).symm⟩)
     | false =>
      cases h5 : (decide ((↑c.length : Int) > (5000 : Int))) with
      | true =>
       have g0 := neF h0; have g1 := neF h1; have g2 := neF h2; have g3 := of_decide_eq_false h3; have g4 := of_decide_eq_false h4; have g5 := of_decide_eq_true h5; exact Obl.goal (K := fun _ => False) mix (fun _ h => h.elim) (cast (zgW _ a b c _).symm ⟨h0, h1, h2, h3, h4, h5, congrArg (AV.int .i64) (zA (by omega) (by omega)).symm⟩)
      | false =>
       have g0 := neF h0; have g1 := neF h1; have g2 := neF h2; have g3 := of_decide_eq_false h3; have g4 := of_decide_eq_false h4; have g5 := of_decide_eq_false h5; exact Obl.goal (K := fun _ => False) mix (fun _ h => h.elim) (cast (zhj _ a b c _).symm ⟨h0, h1, h2, h3, h4, h5, congrArg (AV.int .i64) (qi (by omega) (by omega)).symm⟩)
section
set_option linter.unusedSectionVars false
variable (R : AV → Prop) (a b c : List UInt8) (_K : AM → Prop)
include R a b c _K
theorem ck2yy : Obl P 64 (fun v _ => R v) 0 _K [.run 248, .know 7 true, .run 49, .know 7 true, .run 34, .done] ((zc P 64 [.agg [.int .i64 2, .str a, .str b, .str c]] GW)) = (((!a == ([] : List UInt8)) = true) ∧ ((!b == ([] : List UInt8)) = true) ∧ (R (.int .i64 2))) := by kernel_rfl
theorem zpk : Obl P 64 (fun v _ => R v) 0 _K [.run 248, .know 7 true, .run 49, .know 7 false, .run 49, .know 7 true, .run 34, .done] ((zc P 64 [.agg [.int .i64 2, .str a, .str b, .str c]] GW)) = (((!a == ([] : List UInt8)) = true) ∧ ((!b == ([] : List UInt8)) = false) ∧ ((!c == ([] : List UInt8)) = true) ∧ (R (.int .i64 2))) := by kernel_rfl
theorem zmL : Obl P 64 (fun v _ => R v) 0 _K [.run 248, .know 7 true, .run 49, .know 7 false, .run 49, .know 7 false, .run 133, .know 18 true, .run 26, .done] ((zc P 64 [.agg [.int .i64 2, .str a, .str b, .str c]] GW)) = (((!a == ([] : List UInt8)) = true) ∧ ((!b == ([] : List UInt8)) = false) ∧ ((!c == ([] : List UInt8)) = false) ∧ (decide ((↑a.length : Int) > (64 : Int)) = true) ∧ (R (.int .i64 3))) := by kernel_rfl
theorem zlu : Obl P 64 (fun v _ => R v) 0 _K [.run 248, .know 7 true, .run 49, .know 7 false, .run 49, .know 7 false, .run 133, .know 18 false, .run 47, .know 18 true, .run 26, .done] ((zc P 64 [.agg [.int .i64 2, .str a, .str b, .str c]] GW)) = (((!a == ([] : List UInt8)) = true) ∧ ((!b == ([] : List UInt8)) = false) ∧ ((!c == ([] : List UInt8)) = false) ∧ (decide ((↑a.length : Int) > (64 : Int)) = false) ∧ (decide ((↑b.length : Int) > (0 : Int)) = true) ∧ (R (.int .i64 3))) := by kernel_rfl
theorem zhB : Obl P 64 (fun v _ => R v) 0 _K [.run 248, .know 7 true, .run 49, .know 7 false, .run 49, .know 7 false, .run 133, .know 18 false, .run 47, .know 18 false, .run 47, .know 18 true, .run 26, .done] ((zc P 64 [.agg [.int .i64 2, .str a, .str b, .str c]] GW)) = (((!a == ([] : List UInt8)) = true) ∧ ((!b == ([] : List UInt8)) = false) ∧ ((!c == ([] : List UInt8)) = false) ∧ (decide ((↑a.length : Int) > (64 : Int)) = false) ∧ (decide ((↑b.length : Int) > (0 : Int)) = false) ∧ (decide ((↑c.length : Int) > (0 : Int)) = true) ∧ (R (.int .i64 3))) := by kernel_rfl
theorem zjM : Obl P 64 (fun v _ => R v) 0 _K [.run 248, .know 7 true, .run 49, .know 7 false, .run 49, .know 7 false, .run 133, .know 18 false, .run 47, .know 18 false, .run 47, .know 18 false, .run 52, .done] ((zc P 64 [.agg [.int .i64 2, .str a, .str b, .str c]] GW)) = (((!a == ([] : List UInt8)) = true) ∧ ((!b == ([] : List UInt8)) = false) ∧ ((!c == ([] : List UInt8)) = false) ∧ (decide ((↑a.length : Int) > (64 : Int)) = false) ∧ (decide ((↑b.length : Int) > (0 : Int)) = false) ∧ (decide ((↑c.length : Int) > (0 : Int)) = false) ∧ (R (.int .i64 0))) := by kernel_rfl
theorem ck2ny : Obl P 64 (fun v _ => R v) 0 _K [.run 248, .know 7 false, .run 49, .know 7 true, .run 34, .done] ((zc P 64 [.agg [.int .i64 2, .str a, .str b, .str c]] GW)) = (((!a == ([] : List UInt8)) = false) ∧ ((!b == ([] : List UInt8)) = true) ∧ (R (.int .i64 2))) := by kernel_rfl
theorem zoh : Obl P 64 (fun v _ => R v) 0 _K [.run 248, .know 7 false, .run 49, .know 7 false, .run 49, .know 7 true, .run 34, .done] ((zc P 64 [.agg [.int .i64 2, .str a, .str b, .str c]] GW)) = (((!a == ([] : List UInt8)) = false) ∧ ((!b == ([] : List UInt8)) = false) ∧ ((!c == ([] : List UInt8)) = true) ∧ (R (.int .i64 2))) := by kernel_rfl
theorem znQ : Obl P 64 (fun v _ => R v) 0 _K [.run 248, .know 7 false, .run 49, .know 7 false, .run 49, .know 7 false, .run 133, .know 18 true, .run 26, .done] ((zc P 64 [.agg [.int .i64 2, .str a, .str b, .str c]] GW)) = (((!a == ([] : List UInt8)) = false) ∧ ((!b == ([] : List UInt8)) = false) ∧ ((!c == ([] : List UInt8)) = false) ∧ (decide ((↑a.length : Int) > (64 : Int)) = true) ∧ (R (.int .i64 3))) := by kernel_rfl
theorem zk5 : Obl P 64 (fun v _ => R v) 0 _K [.run 248, .know 7 false, .run 49, .know 7 false, .run 49, .know 7 false, .run 133, .know 18 false, .run 47, .know 18 true, .run 26, .done] ((zc P 64 [.agg [.int .i64 2, .str a, .str b, .str c]] GW)) = (((!a == ([] : List UInt8)) = false) ∧ ((!b == ([] : List UInt8)) = false) ∧ ((!c == ([] : List UInt8)) = false) ∧ (decide ((↑a.length : Int) > (64 : Int)) = false) ∧ (decide ((↑b.length : Int) > (0 : Int)) = true) ∧ (R (.int .i64 3))) := by kernel_rfl
theorem zie : Obl P 64 (fun v _ => R v) 0 _K [.run 248, .know 7 false, .run 49, .know 7 false, .run 49, .know 7 false, .run 133, .know 18 false, .run 47, .know 18 false, .run 47, .know 18 true, .run 26, .done] ((zc P 64 [.agg [.int .i64 2, .str a, .str b, .str c]] GW)) = (((!a == ([] : List UInt8)) = false) ∧ ((!b == ([] : List UInt8)) = false) ∧ ((!c == ([] : List UInt8)) = false) ∧ (decide ((↑a.length : Int) > (64 : Int)) = false) ∧ (decide ((↑b.length : Int) > (0 : Int)) = false) ∧ (decide ((↑c.length : Int) > (0 : Int)) = true) ∧ (R (.int .i64 3))) := by kernel_rfl
theorem zjh : Obl P 64 (fun v _ => R v) 0 _K [.run 248, .know 7 false, .run 49, .know 7 false, .run 49, .know 7 false, .run 133, .know 18 false, .run 47, .know 18 false, .run 47, .know 18 false, .run 52, .done] ((zc P 64 [.agg [.int .i64 2, .str a, .str b, .str c]] GW)) = (((!a == ([] : List UInt8)) = false) ∧ ((!b == ([] : List UInt8)) = false) ∧ ((!c == ([] : List UInt8)) = false) ∧ (decide ((↑a.length : Int) > (64 : Int)) = false) ∧ (decide ((↑b.length : Int) > (0 : Int)) = false) ∧ (decide ((↑c.length : Int) > (0 : Int)) = false) ∧ (R (.int .i64 0))) := by kernel_rfl
end
theorem zoV (a b c : List UInt8) : Goal P 0 64 (fun v _ => v = .int .i64 (zd2 64 0 0 a b c)) (zc P 64 [.agg [.int .i64 2, .str a, .str b, .str c]] GW) := by
 cases h0 : ((!a == ([] : List UInt8))) with
 | true =>
  cases h1 : ((!b == ([] : List UInt8))) with
  | true =>
   have g0 := neT h0; have g1 := neT h1; exact Obl.goal (K := fun _ => False) mix (fun _ h => h.elim) (cast (ck2yy _ a b c _).symm ⟨h0, h1, congrArg (AV.int .i64) (zaP (by omega)).symm⟩)
  | false =>
   cases h2 : ((!c == ([] : List UInt8))) with
   | true =>
    have g0 := neT h0; have g1 := neF h1; have g2 := neT h2; exact Obl.goal (K := fun _ => False) mix (fun _ h => h.elim) (cast (zpk _ a b c _).symm ⟨h0, h1, h2, congrArg (AV.int .i64) (zaP (by omega)).symm⟩)
   | false =>
    cases h3 : (decide ((↑a.length : Int) > (64 : Int))) with
    | true =>
     have g0 := neT h0; have g1 := neF h1; have g2 := neF h2; have g3 := of_decide_eq_true h3; exact Obl.goal (K := fun _ => False) mix (fun _ h => h.elim) (cast (zmL _ a b c _).symm ⟨h0, h1, h2, h3, congrArg (AV.int .i64) (zA (by omega) (by omega)).symm⟩)
    | false =>
     cases h4 : (decide ((↑b.length : Int) > (0 : Int))) with
     | true =>
      have g0 := neT h0; have g1 := neF h1; have g2 := neF h2; have g3 := of_decide_eq_false h3; have g4 := of_decide_eq_true h4; exact Obl.goal (K := fun _ => False) mix (fun _ h => h.elim) (cast (zlu _ a b c _).symm ⟨h0, h1, h2, h3, h4, congrArg (AV.int .i64) (zA (by omega) (by omega)).symm⟩)
     | false =>
      cases h5 : (decide ((↑c.length : Int) > (0 : Int))) with
      | true =>
       have g0 := neT h0; have g1 := neF h1; have g2 := neF h2; have g3 := of_decide_eq_false h3; have g4 := of_decide_eq_false h4; have g5 := of_decide_eq_true h5; exact Obl.goal (K := fun _ => False) mix (fun _ h => h.elim) (cast (zhB _ a b c _).symm ⟨h0, h1, h2, h3, h4, h5, congrArg (AV.int .i64) (zA (by omega) (by omega)).symm⟩)
      | false =>
       have g0 := neT h0; have g1 := neF h1; have g2 := neF h2; have g3 := of_decide_eq_false h3; have g4 := of_decide_eq_false h4; have g5 := of_decide_eq_false h5; exact Obl.goal (K := fun _ => False) mix (fun _ h => h.elim) (cast (zjM _ a b c _).symm ⟨h0, h1, h2, h3, h4, h5, congrArg (AV.int .i64) (qi (by omega) (by omega)).symm⟩)
 | false =>
  cases h1 : ((!b == ([] : List UInt8))) with
  | true =>
   have g0 := neF h0; have g1 := neT h1; exact Obl.goal (K := fun _ => False) mix (fun _ h => h.elim) (cast (ck2ny _ a b c _).symm ⟨h0, h1, congrArg (AV.int .i64) (zaP (by omega)).symm⟩)
  | false =>
   cases h2 : ((!c == ([] : List UInt8))) with
   | true =>
    have g0 := neF h0; have g1 := neF h1; have g2 := neT h2; exact Obl.goal (K := fun _ => False) mix (fun _ h => h.elim) (cast (zoh _ a b c _).symm ⟨h0, h1, h2, congrArg (AV.int .i64) (zaP (by omega)).symm⟩)
   | false =>
    cases h3 : (decide ((↑a.length : Int) > (64 : Int))) with
    | true =>
     have g0 := neF h0; have g1 := neF h1; have g2 := neF h2; have g3 := of_decide_eq_true h3; exact Obl.goal (K := fun _ => False) mix (fun _ h => h.elim) (cast (znQ _ a b c _).symm ⟨h0, h1, h2, h3, congrArg (AV.int .i64) (zA (by omega) (by omega)).symm⟩)
    | false =>
     cases h4 : (decide ((↑b.length : Int) > (0 : Int))) with
     | true =>
      have g0 := neF h0; have g1 := neF h1; have g2 := neF h2; have g3 := of_decide_eq_false h3; have g4 := of_decide_eq_true h4; exact Obl.goal (K := fun _ => False) mix (fun _ h => h.elim) (cast (zk5 _ a b c _).symm ⟨h0, h1, h2, h3, h4, congrArg (AV.int .i64) (zA (by omega) (by omega)).symm⟩)
     | false =>
      cases h5 : (decide ((↑c.length : Int) > (0 : Int))) with
      | true =>
       have g0 := neF h0; have g1 := neF h1; have g2 := neF h2; have g3 := of_decide_eq_false h3; have g4 := of_decide_eq_false h4; have g5 := of_decide_eq_true h5; exact Obl.goal (K := fun _ => False) mix (fun _ h => h.elim) (cast (zie _ a b c _).symm ⟨h0, h1, h2, h3, h4, h5, congrArg (AV.int .i64) (zA (by omega) (by omega)).symm⟩)
      | false =>
       have g0 := neF h0; have g1 := neF h1; have g2 := neF h2; have g3 := of_decide_eq_false h3; have g4 := of_decide_eq_false h4; have g5 := of_decide_eq_false h5; exact Obl.goal (K := fun _ => False) mix (fun _ h => h.elim) (cast (zjh _ a b c _).symm ⟨h0, h1, h2, h3, h4, h5, congrArg (AV.int .i64) (qi (by omega) (by omega)).symm⟩)
section
set_option linter.unusedSectionVars false
variable (R : AV → Prop) (a b c : List UInt8) (_K : AM → Prop)
include R a b c _K
theorem zmB : Obl P 64 (fun v _ => R v) 0 _K [.run 248, .know 7 true, .run 49, .know 7 true, .run 49, .know 7 true, .run 133, .know 18 true, .run 26, .done] ((zc P 64 [.agg [.int .i64 3, .str a, .str b, .str c]] GW)) = (((!a == ([] : List UInt8)) = true) ∧ ((!b == ([] : List UInt8)) = true) ∧ ((!c == ([] : List UInt8)) = true) ∧ (decide ((↑a.length : Int) > (64 : Int)) = true) ∧ (R (.int .i64 3))) := by kernel_rfl
theorem zkS : Obl P 64 (fun v _ => R v) 0 _K [.run 248, .know 7 true, .run 49, .know 7 true, .run 49, .know 7 true, .run 133, .know 18 false, .run 47, .know 18 true, .run 26, .done] ((zc P 64 [.agg [.int .i64 3, .str a, .str b, .str c]] GW)) = (((!a == ([] : List UInt8)) = true) ∧ ((!b == ([] : List UInt8)) = true) ∧ ((!c == ([] : List UInt8)) = true) ∧ (decide ((↑a.length : Int) > (64 : Int)) = false) ∧ (decide ((↑b.length : Int) > (200 : Int)) = true) ∧ (R (.int .i64 3))) := by kernel_rfl
theorem zhI : Obl P 64 (fun v _ => R v) 0 _K [.run 248, .know 7 true, .run 49, .know 7 true, .run 49, .know 7 true, .run 133, .know 18 false, .run 47, .know 18 false, .run 47, .know 18 true, .run 26, .done] ((zc P 64 [.agg [.int .i64 3, .str a, .str b, .str c]] GW)) = (((!a == ([] : List UInt8)) = true) ∧ ((!b == ([] : List UInt8)) = true) ∧ ((!c == ([] : List UInt8)) = true) ∧ (decide ((↑a.length : Int) > (64 : Int)) = false) ∧ (decide ((↑b.length : Int) > (200 : Int)) = false) ∧ (decide ((↑c.length : Int) > (5000 : Int)) = true) ∧ (R (.int .i64 3))) := by kernel_rfl
theorem zio : Obl P 64 (fun v _ => R v) 0 _K [.run 248, .know 7 true, .run 49, .know 7 true, .run 49, .know 7 true, .run 133, .know 18 false, .run 47, .know 18 false, .run 47, .know 18 false, .run 52, .done] ((zc P 64 [.agg [.int .i64 3, .str a, .str b, .str c]] GW)) = (((!a == ([] : List UInt8)) = true) ∧ ((!b == ([] : List UInt8)) = true) ∧ ((!c == ([] : List UInt8)) = true) ∧ (decide ((↑a.length : Int) > (64 : Int)) = false) ∧ (decide ((↑b.length : Int) > (200 : Int)) = false) ∧ (decide ((↑c.length : Int) > (5000 : Int)) = false) ∧ (R (.int .i64 0))) := by kernel_rfl
theorem zn4 : Obl P 64 (fun v _ => R v) 0 _K [.run 248, .know 7 true, .run 49, .know 7 true, .run 49, .know 7 false, .run 133, .know 18 true, .run 26, .done] ((zc P 64 [.agg [.int .i64 3, .str a, .str b, .str c]] GW)) = (((!a == ([] : List UInt8)) = true) ∧ ((!b == ([] : List UInt8)) = true) ∧ ((!c == ([] : List UInt8)) = false) ∧ (decide ((↑a.length : Int) > (64 : Int)) = true) ∧ (R (.int .i64 3))) := by kernel_rfl
theorem zlh : Obl P 64 (fun v _ => R v) 0 _K [.run 248, .know 7 true, .run 49, .know 7 true, .run 49, .know 7 false, .run 133, .know 18 false, .run 47, .know 18 true, .run 26, .done] ((zc P 64 [.agg [.int .i64 3, .str a, .str b, .str c]] GW)) = (((!a == ([] : List UInt8)) = true) ∧ ((!b == ([] : List UInt8)) = true) ∧ ((!c == ([] : List UInt8)) = false) ∧ (decide ((↑a.length : Int) > (64 : Int)) = false) ∧ (decide ((↑b.length : Int) > (200 : Int)) = true) ∧ (R (.int .i64 3))) := by kernel_rfl
theorem zjJ : Obl P 64 (fun v _ => R v) 0 _K [.run 248, .know 7 true, .run 49, .know 7 true, .run 49, .know 7 false, .run 133, .know 18 false, .run 47, .know 18 false, .run 47, .know 18 true, .run 26, .done] ((zc P 64 [.agg [.int .i64 3, .str a, .str b, .str c]] GW)) = (((!a == ([] : List UInt8)) = true) ∧ ((!b == ([] : List UInt8)) = true) ∧ ((!c == ([] : List UInt8)) = false) ∧ (decide ((↑a.length : Int) > (64 : Int)) = false) ∧ (decide ((↑b.length : Int) > (200 : Int)) = false) ∧ (decide ((↑c.length : Int) > (5000 : Int)) = true) ∧ (R (.int .i64 3))) := by kernel_rfl
theorem zg2 : Obl P 64 (fun v _ => R v) 0 _K [.run 248, .know 7 true, .run 49, .know 7 true, .run 49, .know 7 false, .run 133, .know 18 false, .run 47, .know 18 false, .run 47, .know 18 false, .run 52, .done] ((zc P 64 [.agg [.int .i64 3, .str a, .str b, .str c]] GW)) = (((!a == ([] : List UInt8)) = true) ∧ ((!b == ([] : List UInt8)) = true) ∧ ((!c == ([] : List UInt8)) = false) ∧ (decide ((↑a.length : Int) > (64 : Int)) = false) ∧ (decide ((↑b.length : Int) > (200 : Int)) = false) ∧ (decide ((↑c.length : Int) > (5000 : Int)) = false) ∧ (R (.int .i64 0))) := by kernel_rfl
theorem zmx : Obl P 64 (fun v _ => R v) 0 _K [.run 248, .know 7 true, .run 49, .know 7 false, .run 49, .know 7 true, .run 133, .know 18 true, .run 26, .done] ((zc P 64 [.agg [.int .i64 3, .str a, .str b, .str c]] GW)) = (((!a == ([] : List UInt8)) = true) ∧ ((!b == ([] : List UInt8)) = false) ∧ ((!c == ([] : List UInt8)) = true) ∧ (decide ((↑a.length : Int) > (64 : Int)) = true) ∧ (R (.int .i64 3))) := by kernel_rfl
theorem zkX : Obl P 64 (fun v _ => R v) 0 _K [.run 248, .know 7 true, .run 49, .know 7 false, .run 49, .know 7 true, .run 133, .know 18 false, .run 47, .know 18 true, .run 26, .done] ((zc P 64 [.agg [.int .i64 3, .str a, .str b, .str c]] GW)) = (((!a == ([] : List UInt8)) = true) ∧ ((!b == ([] : List UInt8)) = false) ∧ ((!c == ([] : List UInt8)) = true) ∧ (decide ((↑a.length : Int) > (64 : Int)) = false) ∧ (decide ((↑b.length : Int) > (200 : Int)) = true) ∧ (R (.int .i64 3))) := by kernel_rfl
theorem zi0 : Obl P 64 (fun v _ => R v) 0 _K [.run 248, .know 7 true, .run 49, .know 7 false, .run 49, .know 7 true, .run 133, .know 18 false, .run 47, .know 18 false, .run 47, .know 18 true, .run 26, .done] ((zc P 64 [.agg [.int .i64 3, .str a, .str b, .str c]] GW)) = (((!a == ([] : List UInt8)) = true) ∧ ((!b == ([] : List UInt8)) = false) ∧ ((!c == ([] : List UInt8)) = true) ∧ (decide ((↑a.length : Int) > (64 : Int)) = false) ∧ (decide ((↑b.length : Int) > (200 : Int)) = false) ∧ (decide ((↑c.length : Int) > (5000 : Int)) = true) ∧ (R (.int .i64 3))) := by kernel_rfl
theorem zh8 : Obl P 64 (fun v _ => R v) 0 _K [.run 248, .know 7 true, .run 49, .know 7 false, .run 49, .know 7 true, .run 133, .know 18 false, .run 47, .know 18 false, .run 47, .know 18 false, .run 52, .done] ((zc P 64 [.agg [.int .i64 3, .str a, .str b, .str c]] GW)) = (((!a == ([] : List UInt8)) = true) ∧ ((!b == ([] : List UInt8)) = false) ∧ ((!c == ([] : List UInt8)) = true) ∧ (decide ((↑a.length : Int) > (64 : Int)) = false) ∧ (decide ((↑b.length : Int) > (200 : Int)) = false) ∧ (decide ((↑c.length : Int) > (5000 : Int)) = false) ∧ (R (.int .i64 0))) := by kernel_rfl
theorem zmM : Obl P 64 (fun v _ => R v) 0 _K [.run 248, .know 7 true, .run 49, .know 7 false, .run 49, .know 7 false, .run 133, .know 18 true, .run 26, .done] ((zc P 64 [.agg [.int .i64 3, .str a, .str b, .str c]] GW)) = (((!a == ([] : List UInt8)) = true) ∧ ((!b == ([] : List UInt8)) = false) ∧ ((!c == ([] : List UInt8)) = false) ∧ (decide ((↑a.length : Int) > (64 : Int)) = true) ∧ (R (.int .i64 3))) := by kernel_rfl
theorem zk0 : Obl P 64 (fun v _ => R v) 0 _K [.run 248, .know 7 true, .run 49, .know 7 false, .run 49, .know 7 false, .run 133, .know 18 false, .run 47, .know 18 true, .run 26, .done] ((zc P 64 [.agg [.int .i64 3, .str a, .str b, .str c]] GW)) = (((!a == ([] : List UInt8)) = true) ∧ ((!b == ([] : List UInt8)) = false) ∧ ((!c == ([] : List UInt8)) = false) ∧ (decide ((↑a.length : Int) > (64 : Int)) = false) ∧ (decide ((↑b.length : Int) > (200 : Int)) = true) ∧ (R (.int .i64 3))) := by kernel_rfl
theorem zgU : Obl P 64 (fun v _ => R v) 0 _K [.run 248, .know 7 true, .run 49, .know 7 false, .run 49, .know 7 false, .run 133, .know 18 false, .run 47, .know 18 false, .run 47, .know 18 true, .run 26, .done] ((zc P 64 [.agg [.int .i64 3, .str a, .str b, .str c]] GW)) = (((!a == ([] : List UInt8)) = true) ∧ ((!b == ([] : List UInt8)) = false) ∧ ((!c == ([] : List UInt8)) = false) ∧ (decide ((↑a.length : Int) > (64 : Int)) = false) ∧ (decide ((↑b.length : Int) > (200 : Int)) = false) ∧ (decide ((↑c.length : Int) > (5000 : Int)) = true) ∧ (R (.int .i64 3))) := by kernel_rfl
theorem zhJ : Obl P 64 (fun v _ => R v) 0 _K [.run 248, .know 7 true, .run 49, .know 7 false, .run 49, .know 7 false, .run 133, .know 18 false, .run 47, .know 18 false, .run 47, .know 18 false, .run 52, .done] ((zc P 64 [.agg [.int .i64 3, .str a, .str b, .str c]] GW)) = (((!a == ([] : List UInt8)) = true) ∧ ((!b == ([] : List UInt8)) = false) ∧ ((!c == ([] : List UInt8)) = false) ∧ (decide ((↑a.length : Int) > (64 : Int)) = false) ∧ (decide ((↑b.length : Int) > (200 : Int)) = false) ∧ (decide ((↑c.length : Int) > (5000 : Int)) = false) ∧ (R (.int .i64 0))) := by kernel_rfl
theorem znD : Obl P 64 (fun v _ => R v) 0 _K [.run 248, .know 7 false, .run 49, .know 7 true, .run 49, .know 7 true, .run 133, .know 18 true, .run 26, .done] ((zc P 64 [.agg [.int .i64 3, .str a, .str b, .str c]] GW)) = (((!a == ([] : List UInt8)) = false) ∧ ((!b == ([] : List UInt8)) = true) ∧ ((!c == ([] : List UInt8)) = true) ∧ (decide ((↑a.length : Int) > (64 : Int)) = true) ∧ (R (.int .i64 3))) := by kernel_rfl
theorem zkw : Obl P 64 (fun v _ => R v) 0 _K [.run 248, .know 7 false, .run 49, .know 7 true, .run 49, .know 7 true, .run 133, .know 18 false, .run 47, .know 18 true, .run 26, .done] ((zc P 64 [.agg [.int .i64 3, .str a, .str b, .str c]] GW)) = (((!a == ([] : List UInt8)) = false) ∧ ((!b == ([] : List UInt8)) = true) ∧ ((!c == ([] : List UInt8)) = true) ∧ (decide ((↑a.length : Int) > (64 : Int)) = false) ∧ (decide ((↑b.length : Int) > (200 : Int)) = true) ∧ (R (.int .i64 3))) := by kernel_rfl
theorem zjw : Obl P 64 (fun v _ => R v) 0 _K [.run 248, .know 7 false, .run 49, .know 7 true, .run 49, .know 7 true, .run 133, .know 18 false, .run 47, .know 18 false, .run 47, .know 18 true, .run 26, .done] ((zc P 64 [.agg [.int .i64 3, .str a, .str b, .str c]] GW)) = (((!a == ([] : List UInt8)) = false) ∧ ((!b == ([] : List UInt8)) = true) ∧ ((!c == ([] : List UInt8)) = true) ∧ (decide ((↑a.length : Int) > (64 : Int)) = false) ∧ (decide ((↑b.length : Int) > (200 : Int)) = false) ∧ (decide ((↑c.length : Int) > (5000 : Int)) = true) ∧ (R (.int .i64 3))) := by kernel_rfl
theorem zjU : Obl P 64 (fun v _ => R v) 0 _K [.run 248, .know 7 false, .run 49, .know 7 true, .run 49, .know 7 true, .run 133, .know 18 false, .run 47, .know 18 false, .run 47, .know 18 false, .run 52, .done] ((zc P 64 [.agg [.int .i64 3, .str a, .str b, .str c]] GW)) = (((!a == ([] : List UInt8)) = false) ∧ ((!b == ([] : List UInt8)) = true) ∧ ((!c == ([] : List UInt8)) = true) ∧ (decide ((↑a.length : Int) > (64 : Int)) = false) ∧ (decide ((↑b.length : Int) > (200 : Int)) = false) ∧ (decide ((↑c.length : Int) > (5000 : Int)) = false) ∧ (R (.int .i64 0))) := by kernel_rfl
theorem znF : Obl P 64 (fun v _ => R v) 0 _K [.run 248, .know 7 false, .run 49, .know 7 true, .run 49, .know 7 false, .run 133, .know 18 true, .run 26, .done] ((zc P 64 [.agg [.int .i64 3, .str a, .str b, .str c]] GW)) = (((!a == ([] : List UInt8)) = false) ∧ ((!b == ([] : List UInt8)) = true) ∧ ((!c == ([] : List UInt8)) = false) ∧ (decide ((↑a.length : Int) > (64 : Int)) = true) ∧ (R (.int .i64 3))) := by kernel_rfl
theorem zkT : Obl P 64 (fun v _ => R v) 0 _K [.run 248, .know 7 false, .run 49, .know 7 true, .run 49, .know 7 false, .run 133, .know 18 false, .run 47, .know 18 true, .run 26, .done] ((zc P 64 [.agg [.int .i64 3, .str a, .str b, .str c]] GW)) = (((!a == ([] : List UInt8)) = false) ∧ ((!b == ([] : List UInt8)) = true) ∧ ((!c == ([] : List UInt8)) = false) ∧ (decide ((↑a.length : Int) > (64 : Int)) = false) ∧ (decide ((↑b.length : Int) > (200 : Int)) = true) ∧ (R (.int .i64 3))) := by kernel_rfl
theorem ziG : Obl P 64 (fun v _ => R v) 0 _K [.run 248, .know 7 false, .run 49, .know 7 true, .run 49, .know 7 false, .run 133, .know 18 false, .run 47, .know 18 false, .run 47, .know 18 true, .run 26, .done] ((zc P 64 [.agg [.int .i64 3, .str a, .str b, .str c]] GW)) = (((!a == ([] : List UInt8)) = false) ∧ ((!b == ([] : List UInt8)) = true) ∧ ((!c == ([] : List UInt8)) = false) ∧ (decide ((↑a.length : Int) > (64 : Int)) = false) ∧ (decide ((↑b.length : Int) > (200 : Int)) = false) ∧ (decide ((↑c.length : Int) > (5000 : Int)) = true) ∧ (R (.int .i64 3))) := by kernel_rfl
theorem zhx : Obl P 64 (fun v _ => R v) 0 _K [.run 248, .know 7 false, .run 49, .know 7 true, .run 49, .know 7 false, .run 133, .know 18 false, .run 47, .know 18 false, .run 47, .know 18 false, .run 52, .done] ((zc P 64 [.agg [.int .i64 3, .str a, .str b, .str c]] GW)) = (((!a == ([] : List UInt8)) = false) ∧ ((!b == ([] : List UInt8)) = true) ∧ ((!c == ([] : List UInt8)) = false) ∧ (decide ((↑a.length : Int) > (64 : Int)) = false) ∧ (decide ((↑b.length : Int) > (200 : Int)) = false) ∧ (decide ((↑c.length : Int) > (5000 : Int)) = false) ∧ (R (.int .i64 0))) := by kernel_rfl
theorem zmQ : Obl P 64 (fun v _ => R v) 0 _K [.run 248, .know 7 false, .run 49, .know 7 false, .run 49, .know 7 true, .run 133, .know 18 true, .run 26, .done] ((zc P 64 [.agg [.int .i64 3, .str a, .str b, .str c]] GW)) = (((!a == ([] : List UInt8)) = false) ∧ ((!b == ([] : List UInt8)) = false) ∧ ((!c == ([] : List UInt8)) = true) ∧ (decide ((↑a.length : Int) > (64 : Int)) = true) ∧ (R (.int .i64 3))) := by kernel_rfl
theorem zkq : Obl P 64 (fun v _ => R v) 0 _K [.run 248, .know 7 false, .run 49, .know 7 false, .run 49, .know 7 true, .run 133, .know 18 false, .run 47, .know 18 true, .run 26, .done] ((zc P 64 [.agg [.int .i64 3, .str a, .str b, .str c]] GW)) = (((!a == ([] : List UInt8)) = false) ∧ ((!b == ([] : List UInt8)) = false) ∧ ((!c == ([] : List UInt8)) = true) ∧ (decide ((↑a.length : Int) > (64 : Int)) = false) ∧ (decide ((↑b.length : Int) > (200 : Int)) = true) ∧ (R (.int .i64 3))) := by kernel_rfl
theorem zka : Obl P 64 (fun v _ => R v) 0 _K [.run 248, .know 7 false, .run 49, .know 7 false, .run 49, .know 7 true, .run 133, .know 18 false, .run 47, .know 18 false, .run 47, .know 18 true, .run 26, .done] ((zc P 64 [.agg [.int .i64 3, .str a, .str b, .str c]] GW)) = (((!a == ([] : List UInt8)) = false) ∧ ((!b == ([] : List UInt8)) = false) ∧ ((!c == ([] : List UInt8)) = true) ∧ (decide ((↑a.length : Int) > (64 : Int)) = false) ∧ (decide ((↑b.length : Int) > (200 : Int)) = false) ∧ (decide ((↑c.length : Int) > (5000 : Int)) = true) ∧ (R (.int .i64 3))) := by kernel_rfl
theorem zjS : Obl P 64 (fun v _ => R v) 0 _K [.run 248, .know 7 false, .run 49, .know 7 false, .run 49, .know 7 true, .run 133, .know 18 false, .run 47, .know 18 false, .run 47, .know 18 false, .run 52, .done] ((zc P 64 [.agg [.int .i64 3, .str a, .str b, .str c]] GW)) = (((!a == ([] : List UInt8)) = false) ∧ ((!b == ([] : List UInt8)) = false) ∧ ((!c == ([] : List UInt8)) = true) ∧ (decide ((↑a.length : Int) > (64 : Int)) = false) ∧ (decide ((↑b.length : Int) > (200 : Int)) = false) ∧ (decide ((↑c.length : Int) > (5000 : Int)) = false) ∧ (R (.int .i64 0))) := by kernel_rfl
theorem zmK : Obl P 64 (fun v _ => R v) 0 _K [.run 248, .know 7 false, .run 49, .know 7 false, .run 49, .know 7 false, .run 133, .know 18 true, .run 26, .done] ((zc P 64 [.agg [.int .i64 3, .str a, .str b, .str c]] GW)) = (((!a == ([] : List UInt8)) = false) ∧ ((!b == ([] : List UInt8)) = false) ∧ ((!c == ([] : List UInt8)) = false) ∧ (decide ((↑a.length : Int) > (64 : Int)) = true) ∧ (R (.int .i64 3))) := by kernel_rfl
theorem zks : Obl P 64 (fun v _ => R v) 0 _K [.run 248, .know 7 false, .run 49, .know 7 false, .run 49, .know 7 false, .run 133, .know 18 false, .run 47, .know 18 true, .run 26, .done] ((zc P 64 [.agg [.int .i64 3, .str a, .str b, .str c]] GW)) = (((!a == ([] : List UInt8)) = false) ∧ ((!b == ([] : List UInt8)) = false) ∧ ((!c == ([] : List UInt8)) = false) ∧ (decide ((↑a.length : Int) > (64 : Int)) = false) ∧ (decide ((↑b.length : Int) > (200 : Int)) = true) ∧ (R (.int .i64 3))) := by kernel_rfl
theorem zg3 : Obl P 64 (fun v _ => R v) 0 _K [.run 248, .know 7 false, .run 49, .know 7 false, .run 49, .know 7 false, .run 133, .know 18 false, .run 47, .know 18 false, .run 47, .know 18 true, .run 26, .done] ((zc P 64 [.agg [.int .i64 3, .str a, .str b, .str c]] GW)) = (((!a == ([] : List UInt8)) = false) ∧ ((!b == ([] : List UInt8)) = false) ∧ ((!c == ([] : List UInt8)) = false) ∧ (decide ((↑a.length : Int) > (64 : Int)) = false) ∧ (decide ((↑b.length : Int) > (200 : Int)) = false) ∧ (decide ((↑c.length : Int) > (5000 : Int)) = true) ∧ (R (.int .i64 3))) := by kernel_rfl
theorem ziU : Obl P 64 (fun v _ => R v) 0 _K [.run 248, .know 7 false, .run 49, .know 7 false, .run 49, .know 7 false, .run 133, .know 18 false, .run 47, .know 18 false, .run 47, .know 18 false, .run 52, .done] ((zc P 64 [.agg [.int .i64 3, .str a, .str b, .str c]] GW)) = (((!a == ([] : List UInt8)) = false) ∧ ((!b == ([] : List UInt8)) = false) ∧ ((!c == ([] : List UInt8)) = false) ∧ (decide ((↑a.length : Int) > (64 : Int)) = false) ∧ (decide ((↑b.length : Int) > (200 : Int)) = false) ∧ (decide ((↑c.length : Int) > (5000 : Int)) = false) ∧ (R (.int .i64 0))) := by kernel_rfl
end
theorem zoo (a b c : List UInt8) : Goal P 0 64 (fun v _ => v = .int .i64 (zd2 64 200 5000 a b c)) (zc P 64 [.agg [.int .i64 3, .str a, .str b, .str c]] GW) := by
 cases h0 : ((!a == ([] : List UInt8))) with
 | true =>
  cases h1 : ((!b == ([] : List UInt8))) with
  | true =>
   cases h2 : ((!c == ([] : List UInt8))) with
   | true =>
    cases h3 : (decide ((↑a.length : Int) > (64 : Int))) with
    | true =>
     have g0 := neT h0; have g1 := neT h1; have g2 := neT h2; have g3 := of_decide_eq_true h3; exact Obl.goal (K := fun _ => False) mix (fun _ h => h.elim) (cast (zmB _ a b c _).symm ⟨h0, h1, h2, h3, congrArg (AV.int .i64) (zA (by omega) (by omega)).symm⟩)
    | false =>
     cases h4 : (decide ((↑b.length : Int) > (200 : Int))) with
     | true =>
      have g0 := neT h0; have g1 := neT h1; have g2 := neT h2; have g3 := of_decide_eq_false h3; have g4 := of_decide_eq_true h4; exact Obl.goal (K := fun _ => False) mix (fun _ h => h.elim) (cast (zkS _ a b c _).symm ⟨h0, h1, h2, h3, h4, congrArg (AV.int .i64) (zA (by omega) (by omega)).symm⟩)
     | false =>
      cases h5 : (decide ((↑c.length : Int) > (5000 : Int))) with
      | true =>
       have g0 := neT h0; have g1 := neT h1; have g2 := neT h2; have g3 := of_decide_eq_false h3; have g4 := of_decide_eq_false h4; have g5 := of_decide_eq_true h5; exact Obl.goal (K := fun _ => False) mix (fun _ h => h.elim) (cast (zhI _ a b c _).symm ⟨h0, h1, h2, h3, h4, h5, congrArg (AV.int .i64) (zA (by omega) (by omega)).symm⟩)
      | false =>
       have g0 := neT h0; have g1 := neT h1; have g2 := neT h2; have g3 := of_decide_eq_false h3; have g4 := of_decide_eq_false h4; have g5 := of_decide_eq_false h5; exact Obl.goal (K := fun _ => False) mix (fun _ h => h.elim) (cast (zio _ a b c _).symm ⟨h0, h1, h2, h3, h4, h5, congrArg (AV.int .i64) (qi (by omega) (by omega)).symm⟩)
   | false =>
    cases h3 : (decide ((↑a.length : Int) > (64 : Int))) with
    | true =>
     have g0 := neT h0; have g1 := neT h1; have g2 := neF h2; have g3 := of_decide_eq_true h3; exact Obl.goal (K := fun _ => False) mix (fun _ h => h.elim) (cast (zn4 _ a b c _).symm ⟨h0, h1, h2, h3, congrArg (AV.int .i64) (zA (by omega) (by omega)).symm⟩)
    | false =>
     cases h4 : (decide ((↑b.length : Int) > (200 : Int))) with
     | true =>
      have g0 := neT h0; have g1 := neT h1; have g2 := neF h2; have g3 := of_decide_eq_false h3; have g4 := of_decide_eq_true h4; exact Obl.goal (K := fun _ => False) mix (fun _ h => h.elim) (cast (zlh _ a b c _).symm ⟨h0, h1, h2, h3, h4, congrArg (AV.int .i64) (zA (by omega) (by omega)).symm⟩)
     | false =>
      cases h5 : (decide ((↑c.length : Int) > (5000 : Int))) with
      | true =>
       have g0 := neT h0; have g1 := neT h1; have g2 := neF h2; have g3 := of_decide_eq_false h3; have g4 := of_decide_eq_false h4; have g5 := of_decide_eq_true h5; exact Obl.goal (K := fun _ => False) mix (fun _ h => h.elim) (cast (zjJ _ a b c _).symm ⟨h0, h1, h2, h3, h4, h5, congrArg (AV.int .i64) (zA (by omega) (by omega)).symm⟩)
      | false =>
       have g0 := neT h0; have g1 := neT h1; have g2 := neF h2; have g3 := of_decide_eq_false h3; have g4 := of_decide_eq_false h4; have g5 := of_decide_eq_false h5; exact Obl.goal (K := fun _ => False) mix (fun _ h => h.elim) (cast (zg2 _ a b c _).symm ⟨h0, h1, h2, h3, h4, h5, congrArg (AV.int .i64) (qi (by omega) (by omega)).symm⟩)
  | false =>
   cases h2 : ((!c == ([] : List UInt8))) with
   | true =>
    cases h3 : (decide ((↑a.length : Int) > (64 : Int))) with
    | true =>
     have g0 := neT h0; have g1 := neF h1; have g2 := neT h2; have g3 := of_decide_eq_true h3; exact Obl.goal (K := fun _ => False) mix (fun _ h => h.elim) (cast (zmx _ a b c _).symm ⟨h0, h1, h2, h3, congrArg (AV.int .i64) (zA (by omega) (by omega)).symm⟩)
    | false =>
     cases h4 : (decide ((↑b.length : Int) > (200 : Int))) with
     | true =>
      have g0 := neT h0; have g1 := neF h1; have g2 := neT h2; have g3 := of_decide_eq_false h3; have g4 := of_decide_eq_true h4; exact Obl.goal (K := fun _ => False) mix (fun _ h => h.elim) (cast (zkX _ a b c _).symm ⟨h0, h1, h2, h3, h4, congrArg (AV.int .i64) (zA (by omega) (by omega)).symm⟩)
     | false =>
      cases h5 : (decide ((↑c.length : Int) > (5000 : Int))) with
      | true =>
       have g0 := neT h0; have g1 := neF h1; have g2 := neT h2; have g3 := of_decide_eq_false h3; have g4 := of_decide_eq_false h4; have g5 := of_decide_eq_true h5; exact Obl.goal (K := fun _ => False) mix (fun _ h => h.elim) (cast (zi0 _ a b c _).symm ⟨h0, h1, h2, h3, h4, h5, congrArg (AV.int .i64) (zA (by omega) (by omega)).symm⟩)
      | false =>
       have g0 := neT h0; have g1 := neF h1; have g2 := neT h2; have g3 := of_decide_eq_false h3; have g4 := of_decide_eq_false h4; have g5 := of_decide_eq_false h5; exact Obl.goal (K := fun _ => False) mix (fun _ h => h.elim) (cast (zh8 _ a b c _).symm ⟨h0, h1, h2, h3, h4, h5, congrArg (AV.int .i64) (qi (by omega) (by omega)).symm⟩)
   | false =>
    cases h3 : (decide ((↑a.length : Int) > (64 : Int))) with
    | true =>
     have g0 := neT h0; have g1 := neF h1; have g2 := neF h2; have g3 := of_decide_eq_true h3; exact Obl.goal (K := fun _ => False) mix (fun _ h => h.elim) (cast (zmM _ a b c _).symm ⟨h0, h1, h2, h3, congrArg (AV.int .i64) (zA (by omega) (by omega)).symm⟩)
    | false =>
     cases h4 : (decide ((↑b.length : Int) > (200 : Int))) with
     | true =>
      have g0 := neT h0; have g1 := neF h1; have g2 := neF h2; have g3 := of_decide_eq_false h3; have g4 := of_decide_eq_true h4; exact Obl.goal (K := fun _ => False) mix (fun _ h => h.elim) (cast (zk0 _ a b c _).symm ⟨h0, h1, h2, h3, h4, congrArg (AV.int .i64) (zA (by omega) (by omega)).symm⟩)
     | false =>
      cases h5 : (decide ((↑c.length : Int) > (5000 : Int))) with
      | true =>
       have g0 := neT h0; have g1 := neF h1; have g2 := neF h2; have g3 := of_decide_eq_false h3; have g4 := of_decide_eq_false h4; have g5 := of_decide_eq_true h5; exact Obl.goal (K := fun _ => False) mix (fun _ h => h.elim) (cast (zgU _ a b c _).symm ⟨h0, h1, h2, h3, h4, h5, congrArg (AV.int .i64) (zA (by omega) (by omega)).symm⟩)
      | false =>
       have g0 := neT h0; have g1 := neF h1; have g2 := neF h2; have g3 := of_decide_eq_false h3; have g4 := of_decide_eq_false h4; have g5 := of_decide_eq_false h5; exact Obl.goal (K := fun _ => False) mix (fun _ h => h.elim) (cast (zhJ _ a b c _).symm ⟨h0, h1, h2, h3, h4, h5, congrArg (AV.int .i64) (qi (by omega) (by omega)).symm⟩)
 | false =>
  cases h1 : ((!b == ([] : List UInt8))) with
  | true =>
   cases h2 : ((!c == ([] : List UInt8))) with
   | true =>
    cases h3 : (decide ((↑a.length : Int) > (64 : Int))) with
    | true =>
     have g0 := neF h0; have g1 := neT h1; have g2 := neT h2; have g3 := of_decide_eq_true h3; exact Obl.goal (K := fun _ => False) mix (fun _ h => h.elim) (cast (znD _ a b c _).symm ⟨h0, h1, h2, h3, congrArg (AV.int .i64) (zA (by omega) (by omega)).symm⟩)
    | false =>
     cases h4 : (decide ((↑b.length : Int) > (200 : Int))) with
     | true =>
      have g0 := neF h0; have g1 := neT h1; have g2 := neT h2; have g3 := of_decide_eq_false h3; have g4 := of_decide_eq_true h4; exact Obl.goal (K := fun _ => False) mix (fun _ h => h.elim) (cast (zkw _ a b c _).symm ⟨h0, h1, h2, h3, h4, congrArg (AV.int .i64) (zA (by omega) (by omega)).symm⟩)
     | false =>
      cases h5 : (decide ((↑c.length : Int) > (5000 : Int))) with
      | true =>
       have g0 := neF h0; have g1 := neT h1; have g2 := neT h2; have g3 := of_decide_eq_false h3; have g4 := of_decide_eq_false h4; have g5 := of_decide_eq_true h5; exact Obl.goal (K := fun _ => False) mix (fun _ h => h.elim) (cast (zjw _ a b c _).symm ⟨h0, h1, h2, h3, h4, h5, congrArg (AV.int .i64) (zA (by omega) (by omega)).symm⟩)
      | false =>
       have g0 := neF h0; have g1 := neT h1; have g2 := neT h2; have g3 := of_decide_eq_false h3; have g4 := of_decide_eq_false h4; have g5 := of_decide_eq_false h5; exact Obl.goal (K := fun _ => False) mix (fun _ h => h.elim) (cast (zjU _ a b c _).symm ⟨h0, h1, h2, h3, h4, h5, congrArg (AV.int .i64) (qi (by omega) (by omega)).symm⟩)
   | false =>
    cases h3 : (decide ((↑a.length : Int) > (64 : Int))) with
    | true =>
     have g0 := neF h0; have g1 := neT h1; have g2 := neF h2; have g3 := of_decide_eq_true h3; exact Obl.goal (K := fun _ => False) mix (fun _ h => h.elim) (cast (znF _ a b c _).symm ⟨h0, h1, h2, h3, congrArg (AV.int .i64) (zA (by omega) (by omega)).symm⟩)
    | false =>
     cases h4 : (decide ((↑b.length : Int) > (200 : Int))) with
     | true =>
      have g0 := neF h0; have g1 := neT h1; have g2 := neF h2; have g3 := of_decide_eq_false h3; have g4 := of_decide_eq_true h4; exact Obl.goal (K := fun _ => False) mix (fun _ h => h.elim) (cast (zkT _ a b c _).symm ⟨h0, h1, h2, h3, h4, congrArg (AV.int .i64) (zA (by omega) (by omega)).symm⟩)
     | false =>
      cases h5 : (decide ((↑c.length : Int) > (5000 : Int))) with
      | true =>
       have g0 := neF h0; have g1 := neT h1; have g2 := neF h2; have g3 := of_decide_eq_false h3; have g4 := of_decide_eq_false h4; have g5 := of_decide_eq_true h5; exact Obl.goal (K := fun _ => False) mix (fun _ h => h.elim) (cast (ziG _ a b c _).symm ⟨h0, h1, h2, h3, h4, h5, congrArg (AV.int .i64) (zA (by omega) (by omega)).symm⟩)
      | false =>
       have g0 := neF h0; have g1 := neT h1; have g2 := neF h2; have g3 := of_decide_eq_false h3; have g4 := of_decide_eq_false h4; have g5 := of_decide_eq_false h5; exact Obl.goal (K := fun _ => False) mix (fun _ h => h.elim) (cast (zhx _ a b c _).symm ⟨h0, h1, h2, h3, h4, h5, congrArg (AV.int .i64) (qi (by omega) (by omega)).symm⟩)
  | false =>
   cases h2 : ((!c == ([] : List UInt8))) with
   | true =>
    cases h3 : (decide ((↑a.length : Int) > (64 : Int))) with
    | true =>
     have g0 := neF h0; have g1 := neF h1; have g2 := neT h2; have g3 := of_decide_eq_true h3; exact Obl.goal (K := fun _ => False) mix (fun _ h => h.elim) (cast (zmQ _ a b c _).symm ⟨h0, h1, h2, h3, congrArg (AV.int .i64) (zA (by omega) (by omega)).symm⟩)
    | false =>
     cases h4 : (decide ((↑b.length : Int) > (200 : Int))) with
     | true =>
      have g0 := neF h0; have g1 := neF h1; have g2 := neT h2; have g3 := of_decide_eq_false h3; have g4 := of_decide_eq_true h4; exact Obl.goal (K := fun _ => False) mix (fun _ h => h.elim) (cast (zkq _ a b c _).symm ⟨h0, h1, h2, h3, h4, congrArg (AV.int .i64) (zA (by omega) (by omega)).symm⟩)
     | false =>
      cases h5 : (decide ((↑c.length : Int) > (5000 : Int))) with
      | true =>
       have g0 := neF h0; have g1 := neF h1; have g2 := neT h2; have g3 := of_decide_eq_false h3; have g4 := of_decide_eq_false h4; have g5 := of_decide_eq_true h5; exact Obl.goal (K := fun _ => False) mix (fun _ h => h.elim) (cast (zka _ a b c _).symm ⟨h0, h1, h2, h3, h4, h5, congrArg (AV.int .i64) (zA (by omega) (by omega)).symm⟩)
      | false =>
       have g0 := neF h0; have g1 := neF h1; have g2 := neT h2; have g3 := of_decide_eq_false h3; have g4 := of_decide_eq_false h4; have g5 := of_decide_eq_false h5; exact Obl.goal (K := fun _ => False) mix (fun _ h => h.elim) (cast (zjS _ a b c _).symm ⟨h0, h1, h2, h3, h4, h5, congrArg (AV.int .i64) (qi (by omega) (by omega)).symm⟩)
   | false =>
    cases h3 : (decide ((↑a.length : Int) > (64 : Int))) with
    | true =>
     have g0 := neF h0; have g1 := neF h1; have g2 := neF h2; have g3 := of_decide_eq_true h3; exact Obl.goal (K := fun _ => False) mix (fun _ h => h.elim) (cast (zmK _ a b c _).symm ⟨h0, h1, h2, h3, congrArg (AV.int .i64) (zA (by omega) (by omega)).symm⟩)
    | false =>
     cases h4 : (decide ((↑b.length : Int) > (200 : Int))) with
     | true =>
      have g0 := neF h0; have g1 := neF h1; have g2 := neF h2; have g3 := of_decide_eq_false h3; have g4 := of_decide_eq_true h4; exact Obl.goal (K := fun _ => False) mix (fun _ h => h.elim) (cast (zks _ a b c _).symm ⟨h0, h1, h2, h3, h4, congrArg (AV.int .i64) (zA (by omega) (by omega)).symm⟩)
     | false =>
      cases h5 : (decide ((↑c.length : Int) > (5000 : Int))) with
      | true =>
       have g0 := neF h0; have g1 := neF h1; have g2 := neF h2; have g3 := of_decide_eq_false h3; have g4 := of_decide_eq_false h4; have g5 := of_decide_eq_true h5; exact Obl.goal (K := fun _ => False) mix (fun _ h => h.elim) (cast (zg3 _ a b c _).symm ⟨h0, h1, h2, h3, h4, h5, congrArg (AV.int .i64) (zA (by omega) (by omega)).symm⟩)
      | false =>
       have g0 := neF h0; have g1 := neF h1; have g2 := neF h2; have g3 := of_decide_eq_false h3; have g4 := of_decide_eq_false h4; have g5 := of_decide_eq_false h5; exact Obl.goal (K := fun _ => False) mix (fun _ h => h.elim) (cast (ziU _ a b c _).symm ⟨h0, h1, h2, h3, h4, h5, congrArg (AV.int .i64) (qi (by omega) (by omega)).symm⟩)
section
set_option linter.unusedSectionVars false
variable (R : AV → Prop) (a b c : List UInt8) (_K : AM → Prop)
include R a b c _K
theorem zoD : Obl P 64 (fun v _ => R v) 0 _K [.run 248, .know 7 true, .run 49, .know 7 true, .run 49, .know 7 true, .run 34, .done] ((zc P 64 [.agg [.int .i64 4, .str a, .str b, .str c]] GW)) = (((!a == ([] : List UInt8)) = true) ∧ ((!b == ([] : List UInt8)) = true) ∧ ((!c == ([] : List UInt8)) = true) ∧ (R (.int .i64 2))) := by kernel_rfl
theorem znL : Obl P 64 (fun v _ => R v) 0 _K [.run 248, .know 7 true, .run 49, .know 7 true, .run 49, .know 7 false, .run 133, .know 18 true, .run 26, .done] ((zc P 64 [.agg [.int .i64 4, .str a, .str b, .str c]] GW)) = (((!a == ([] : List UInt8)) = true) ∧ ((!b == ([] : List UInt8)) = true) ∧ ((!c == ([] : List UInt8)) = false) ∧ (decide ((↑a.length : Int) > (64 : Int)) = true) ∧ (R (.int .i64 3))) := by kernel_rfl
theorem zkn : Obl P 64 (fun v _ => R v) 0 _K [.run 248, .know 7 true, .run 49, .know 7 true, .run 49, .know 7 false, .run 133, .know 18 false, .run 47, .know 18 true, .run 26, .done] ((zc P 64 [.agg [.int .i64 4, .str a, .str b, .str c]] GW)) = (((!a == ([] : List UInt8)) = true) ∧ ((!b == ([] : List UInt8)) = true) ∧ ((!c == ([] : List UInt8)) = false) ∧ (decide ((↑a.length : Int) > (64 : Int)) = false) ∧ (decide ((↑b.length : Int) > (200 : Int)) = true) ∧ (R (.int .i64 3))) := by kernel_rfl
theorem zib : Obl P 64 (fun v _ => R v) 0 _K [.run 248, .know 7 true, .run 49, .know 7 true, .run 49, .know 7 false, .run 133, .know 18 false, .run 47, .know 18 false, .run 47, .know 18 true, .run 26, .done] ((zc P 64 [.agg [.int .i64 4, .str a, .str b, .str c]] GW)) = (((!a == ([] : List UInt8)) = true) ∧ ((!b == ([] : List UInt8)) = true) ∧ ((!c == ([] : List UInt8)) = false) ∧ (decide ((↑a.length : Int) > (64 : Int)) = false) ∧ (decide ((↑b.length : Int) > (200 : Int)) = false) ∧ (decide ((↑c.length : Int) > (0 : Int)) = true) ∧ (R (.int .i64 3))) := by kernel_rfl
theorem ziB : Obl P 64 (fun v _ => R v) 0 _K [.run 248, .know 7 true, .run 49, .know 7 true, .run 49, .know 7 false, .run 133, .know 18 false, .run 47, .know 18 false, .run 47, .know 18 false, .run 52, .done] ((zc P 64 [.agg [.int .i64 4, .str a, .str b, .str c]] GW)) = (((!a == ([] : List UInt8)) = true) ∧ ((!b == ([] : List UInt8)) = true) ∧ ((!c == ([] : List UInt8)) = false) ∧ (decide ((↑a.length : Int) > (64 : Int)) = false) ∧ (decide ((↑b.length : Int) > (200 : Int)) = false) ∧ (decide ((↑c.length : Int) > (0 : Int)) = false) ∧ (R (.int .i64 0))) := by kernel_rfl
theorem zo9 : Obl P 64 (fun v _ => R v) 0 _K [.run 248, .know 7 true, .run 49, .know 7 false, .run 49, .know 7 true, .run 34, .done] ((zc P 64 [.agg [.int .i64 4, .str a, .str b, .str c]] GW)) = (((!a == ([] : List UInt8)) = true) ∧ ((!b == ([] : List UInt8)) = false) ∧ ((!c == ([] : List UInt8)) = true) ∧ (R (.int .i64 2))) := by kernel_rfl
theorem zm1 : Obl P 64 (fun v _ => R v) 0 _K [.run 248, .know 7 true, .run 49, .know 7 false, .run 49, .know 7 false, .run 133, .know 18 true, .run 26, .done] ((zc P 64 [.agg [.int .i64 4, .str a, .str b, .str c]] GW)) = (((!a == ([] : List UInt8)) = true) ∧ ((!b == ([] : List UInt8)) = false) ∧ ((!c == ([] : List UInt8)) = false) ∧ (decide ((↑a.length : Int) > (64 : Int)) = true) ∧ (R (.int .i64 3))) := by kernel_rfl
theorem zly : Obl P 64 (fun v _ => R v) 0 _K [.run 248, .know 7 true, .run 49, .know 7 false, .run 49, .know 7 false, .run 133, .know 18 false, .run 47, .know 18 true, .run 26, .done] ((zc P 64 [.agg [.int .i64 4, .str a, .str b, .str c]] GW)) = (((!a == ([] : List UInt8)) = true) ∧ ((!b == ([] : List UInt8)) = false) ∧ ((!c == ([] : List UInt8)) = false) ∧ (decide ((↑a.length : Int) > (64 : Int)) = false) ∧ (decide ((↑b.length : Int) > (200 : Int)) = true) ∧ (R (.int .i64 3))) := by kernel_rfl
theorem ziI : Obl P 64 (fun v _ => R v) 0 _K [.run 248, .know 7 true, .run 49, .know 7 false, .run 49, .know 7 false, .run 133, .know 18 false, .run 47, .know 18 false, .run 47, .know 18 true, .run 26, .done] ((zc P 64 [.agg [.int .i64 4, .str a, .str b, .str c]] GW)) = (((!a == ([] : List UInt8)) = true) ∧ ((!b == ([] : List UInt8)) = false) ∧ ((!c == ([] : List UInt8)) = false) ∧ (decide ((↑a.length : Int) > (64 : Int)) = false) ∧ (decide ((↑b.length : Int) > (200 : Int)) = false) ∧ (decide ((↑c.length : Int) > (0 : Int)) = true) ∧ (R (.int .i64 3))) := by kernel_rfl
theorem zh0 : Obl P 64 (fun v _ => R v) 0 _K [.run 248, .know 7 true, .run 49, .know 7 false, .run 49, .know 7 false, .run 133, .know 18 false, .run 47, .know 18 false, .run 47, .know 18 false, .run 52, .done] ((zc P 64 [.agg [.int .i64 4, .str a, .str b, .str c]] GW)) = (((!a == ([] : List UInt8)) = true) ∧ ((!b == ([] : List UInt8)) = false) ∧ ((!c == ([] : List UInt8)) = false) ∧ (decide ((↑a.length : Int) > (64 : Int)) = false) ∧ (decide ((↑b.length : Int) > (200 : Int)) = false) ∧ (decide ((↑c.length : Int) > (0 : Int)) = false) ∧ (R (.int .i64 0))) := by kernel_rfl
theorem zoQ : Obl P 64 (fun v _ => R v) 0 _K [.run 248, .know 7 false, .run 49, .know 7 true, .run 49, .know 7 true, .run 34, .done] ((zc P 64 [.agg [.int .i64 4, .str a, .str b, .str c]] GW)) = (((!a == ([] : List UInt8)) = false) ∧ ((!b == ([] : List UInt8)) = true) ∧ ((!c == ([] : List UInt8)) = true) ∧ (R (.int .i64 2))) := by kernel_rfl
theorem znh : Obl P 64 (fun v _ => R v) 0 _K [.run 248, .know 7 false, .run 49, .know 7 true, .run 49, .know 7 false, .run 133, .know 18 true, .run 26, .done] ((zc P 64 [.agg [.int .i64 4, .str a, .str b, .str c]] GW)) = (((!a == ([] : List UInt8)) = false) ∧ ((!b == ([] : List UInt8)) = true) ∧ ((!c == ([] : List UInt8)) = false) ∧ (decide ((↑a.length : Int) > (64 : Int)) = true) ∧ (R (.int .i64 3))) := by kernel_rfl
theorem zk8 : Obl P 64 (fun v _ => R v) 0 _K [.run 248, .know 7 false, .run 49, .know 7 true, .run 49, .know 7 false, .run 133, .know 18 false, .run 47, .know 18 true, .run 26, .done] ((zc P 64 [.agg [.int .i64 4, .str a, .str b, .str c]] GW)) = (((!a == ([] : List UInt8)) = false) ∧ ((!b == ([] : List UInt8)) = true) ∧ ((!c == ([] : List UInt8)) = false) ∧ (decide ((↑a.length : Int) > (64 : Int)) = false) ∧ (decide ((↑b.length : Int) > (200 : Int)) = true) ∧ (R (.int .i64 3))) := by kernel_rfl
theorem zhO : Obl P 64 (fun v _ => R v) 0 _K [.run 248, .know 7 false, .run 49, .know 7 true, .run 49, .know 7 false, .run 133, .know 18 false, .run 47, .know 18 false, .run 47, .know 18 true, .run 26, .done] ((zc P 64 [.agg [.int .i64 4, .str a, .str b, .str c]] GW)) = (((!a == ([] : List UInt8)) = false) ∧ ((!b == ([] : List UInt8)) = true) ∧ ((!c == ([] : List UInt8)) = false) ∧ (decide ((↑a.length : Int) > (64 : Int)) = false) ∧ (decide ((↑b.length : Int) > (200 : Int)) = false) ∧ (decide ((↑c.length : Int) > (0 : Int)) = true) ∧ (R (.int .i64 3))) := by kernel_rfl
theorem zh5 : Obl P 64 (fun v _ => R v) 0 _K [.run 248, .know 7 false, .run 49, .know 7 true, .run 49, .know 7 false, .run 133, .know 18 false, .run 47, .know 18 false, .run 47, .know 18 false, .run 52, .done] ((zc P 64 [.agg [.int .i64 4, .str a, .str b, .str c]] GW)) = (((!a == ([] : List UInt8)) = false) ∧ ((!b == ([] : List UInt8)) = true) ∧ ((!c == ([] : List UInt8)) = false) ∧ (decide ((↑a.length : Int) > (64 : Int)) = false) ∧ (decide ((↑b.length : Int) > (200 : Int)) = false) ∧ (decide ((↑c.length : Int) > (0 : Int)) = false) ∧ (R (.int .i64 0))) := by kernel_rfl
theorem zot : Obl P 64 (fun v _ => R v) 0 _K [.run 248, .know 7 false, .run 49, .know 7 false, .run 49, .know 7 true, .run 34, .done] ((zc P 64 [.agg [.int .i64 4, .str a, .str b, .str c]] GW)) = (((!a == ([] : List UInt8)) = false) ∧ ((!b == ([] : List UInt8)) = false) ∧ ((!c == ([] : List UInt8)) = true) ∧ (R (.int .i64 2))) := by kernel_rfl
theorem zmS : Obl P 64 (fun v _ => R v) 0 _K [.run 248, .know 7 false, .run 49, .know 7 false, .run 49, .know 7 false, .run 133, .know 18 true, .run 26, .done] ((zc P 64 [.agg [.int .i64 4, .str a, .str b, .str c]] GW)) = (((!a == ([] : List UInt8)) = false) ∧ ((!b == ([] : List UInt8)) = false) ∧ ((!c == ([] : List UInt8)) = false) ∧ (decide ((↑a.length : Int) > (64 : Int)) = true) ∧ (R (.int .i64 3))) := by kernel_rfl
theorem zle : Obl P 64 (fun v _ => R v) 0 _K [.run 248, .know 7 false, .run 49, .know 7 false, .run 49, .know 7 false, .run 133, .know 18 false, .run 47, .know 18 true, .run 26, .done] ((zc P 64 [.agg [.int .i64 4, .str a, .str b, .str c]] GW)) = (((!a == ([] : List UInt8)) = false) ∧ ((!b == ([] : List UInt8)) = false) ∧ ((!c == ([] : List UInt8)) = false) ∧ (decide ((↑a.length : Int) > (64 : Int)) = false) ∧ (decide ((↑b.length : Int) > (200 : Int)) = true) ∧ (R (.int .i64 3))) := by kernel_rfl
theorem ziH : Obl P 64 (fun v _ => R v) 0 _K [.run 248, .know 7 false, .run 49, .know 7 false, .run 49, .know 7 false, .run 133, .know 18 false, .run 47, .know 18 false, .run 47, .know 18 true, .run 26, .done] ((zc P 64 [.agg [.int .i64 4, .str a, .str b, .str c]] GW)) = (((!a == ([] : List UInt8)) = false) ∧ ((!b == ([] : List UInt8)) = false) ∧ ((!c == ([] : List UInt8)) = false) ∧ (decide ((↑a.length : Int) > (64 : Int)) = false) ∧ (decide ((↑b.length : Int) > (200 : Int)) = false) ∧ (decide ((↑c.length : Int) > (0 : Int)) = true) ∧ (R (.int .i64 3))) := by kernel_rfl
theorem ziN : Obl P 64 (fun v _ => R v) 0 _K [.run 248, .know 7 false, .run 49, .know 7 false, .run 49, .know 7 false, .run 133, .know 18 false, .run 47, .know 18 false, .run 47, .know 18 false, .run 52, .done] ((zc P 64 [.agg [.int .i64 4, .str a, .str b, .str c]] GW)) = (((!a == ([] : List UInt8)) = false) ∧ ((!b == ([] : List UInt8)) = false) ∧ ((!c == ([] : List UInt8)) = false) ∧ (decide ((↑a.length : Int) > (64 : Int)) = false) ∧ (decide ((↑b.length : Int) > (200 : Int)) = false) ∧ (decide ((↑c.length : Int) > (0 : Int)) = false) ∧ (R (.int .i64 0))) := by kernel_rfl
end
theorem zoW (a b c : List UInt8) : Goal P 0 64 (fun v _ => v = .int .i64 (zd2 64 200 0 a b c)) (zc P 64 [.agg [.int .i64 4, .str a, .str b, .str c]] GW) := by
 cases h0 : ((!a == ([] : List UInt8))) with
 | true =>
  cases h1 : ((!b == ([] : List UInt8))) with
  | true =>
   cases h2 : ((!c == ([] : List UInt8))) with
   | true =>
    have g0 := neT h0; have g1 := neT h1; have g2 := neT h2; exact Obl.goal (K := fun _ => False) mix (fun _ h => h.elim) (cast (zoD _ a b c _).symm ⟨h0, h1, h2, congrArg (AV.int .i64) (zaP (by omega)).symm⟩)
   | false =>
    cases h3 : (decide ((↑a.length : Int) > (64 : Int))) with
    | true =>
     have g0 := neT h0; have g1 := neT h1; have g2 := neF h2; have g3 := of_decide_eq_true h3; exact Obl.goal (K := fun _ => False) mix (fun _ h => h.elim) (cast (znL _ a b c _).symm ⟨h0, h1, h2, h3, congrArg (AV.int .i64) (zA (by omega) (by omega)).symm⟩)
    | false =>
     cases h4 : (decide ((↑b.length : Int) > (200 : Int))) with
     | true =>
      have g0 := neT h0; have g1 := neT h1; have g2 := neF h2; have g3 := of_decide_eq_false h3; have g4 := of_decide_eq_true h4; exact Obl.goal (K := fun _ => False) mix (fun _ h => h.elim) (cast (zkn _ a b c _).symm ⟨h0, h1, h2, h3, h4, congrArg (AV.int .i64) (zA (by omega) (by omega)).symm⟩)
     | false =>
      cases h5 : (decide ((↑c.length : Int) > (0 : Int))) with
      | true =>
       have g0 := neT h0; have g1 := neT h1; have g2 := neF h2; have g3 := of_decide_eq_false h3; have g4 := of_decide_eq_false h4; have g5 := of_decide_eq_true h5; exact Obl.goal (K := fun _ => False) mix (fun _ h => h.elim) (cast (zib _ a b c _).symm ⟨h0, h1, h2, h3, h4, h5, congrArg (AV.int .i64) (zA (by omega) (by omega)).symm⟩)
      | false =>
       have g0 := neT h0; have g1 := neT h1; have g2 := neF h2; have g3 := of_decide_eq_false h3; have g4 := of_decide_eq_false h4; have g5 := of_decide_eq_false h5; exact Obl.goal (K := fun _ => False) mix (fun _ h => h.elim) (cast (ziB _ a b c _).symm ⟨h0, h1, h2, h3, h4, h5, congrArg (AV.int .i64) (qi (by omega) (by omega)).symm⟩)
  | false =>
   cases h2 : ((!c == ([] : List UInt8))) with
   | true =>
    have g0 := neT h0; have g1 := neF h1; have g2 := neT h2; exact Obl.goal (K := fun _ => False) mix (fun _ h => h.elim) (cast (zo9 _ a b c _).symm ⟨h0, h1, h2, congrArg (AV.int .i64) (zaP (by omega)).symm⟩)
   | false =>
    cases h3 : (decide ((↑a.length : Int) > (64 : Int))) with
    | true =>
     have g0 := neT h0; have g1 := neF h1; have g2 := neF h2; have g3 := of_decide_eq_true h3; exact Obl.goal (K := fun _ => False) mix (fun _ h => h.elim) (cast (zm1 _ a b c _).symm ⟨h0, h1, h2, h3, congrArg (AV.int .i64) (zA (by omega) (by omega)).symm⟩)
    | false =>
     cases h4 : (decide ((↑b.length : Int) > (200 : Int))) with
     | true =>
      have g0 := neT h0; have g1 := neF h1; have g2 := neF h2; have g3 := of_decide_eq_false h3; have g4 := of_decide_eq_true h4; exact Obl.goal (K := fun _ => False) mix (fun _ h => h.elim) (cast (zly _ a b c _).symm ⟨h0, h1, h2, h3, h4, congrArg (AV.int .i64) (zA (by omega) (by omega)).symm⟩)
     | false =>
      cases h5 : (decide ((↑c.length : Int) > (0 : Int))) with
      | true =>
       have g0 := neT h0; have g1 := neF h1; have g2 := neF h2; have g3 := of_decide_eq_false h3; have g4 := of_decide_eq_false h4; have g5 := of_decide_eq_true h5; exact Obl.goal (K := fun _ => False) mix (fun _ h => h.elim) (cast (ziI _ a b c _).symm ⟨h0, h1, h2, h3, h4, h5, congrArg (AV.int .i64) (zA (by omega) (by omega)).symm⟩)
      | false =>
       have g0 := neT h0; have g1 := neF h1; have g2 := neF h2; have g3 := of_decide_eq_false h3; have g4 := of_decide_eq_false h4; have g5 := of_decide_eq_false h5; exact Obl.goal (K := fun _ => False) mix (fun _ h => h.elim) (cast (zh0 _ a b c _).symm ⟨h0, h1, h2, h3, h4, h5, congrArg (AV.int .i64) (qi (by omega) (by omega)).symm⟩)
 | false =>
  cases h1 : ((!b == ([] : List UInt8))) with
  | true =>
   cases h2 : ((!c == ([] : List UInt8))) with
   | true =>
    have g0 := neF h0; have g1 := neT h1; have g2 := neT h2; exact Obl.goal (K := fun _ => False) mix (fun _ h => h.elim) (cast (zoQ _ a b c _).symm ⟨h0, h1, h2, congrArg (AV.int .i64) (zaP (by omega)).symm⟩)
   | false =>
    cases h3 : (decide ((↑a.length : Int) > (64 : Int))) with
    | true =>
     have g0 := neF h0; have g1 := neT h1; have g2 := neF h2; have g3 := of_decide_eq_true h3; exact Obl.goal (K := fun _ => False) mix (fun _ h => h.elim) (cast (znh _ a b c _).symm ⟨h0, h1, h2, h3, congrArg (AV.int .i64) (zA (by omega) (by omega)).symm⟩)
    | false =>
     cases h4 : (decide ((↑b.length : Int) > (200 : Int))) with
     | true =>
      have g0 := neF h0; have g1 := neT h1; have g2 := neF h2; have g3 := of_decide_eq_false h3; have g4 := of_decide_eq_true h4; exact Obl.goal (K := fun _ => False) mix (fun _ h => h.elim) (cast (zk8 _ a b c _).symm ⟨h0, h1, h2, h3, h4, congrArg (AV.int .i64) (zA (by omega) (by omega)).symm⟩)
     | false =>
      cases h5 : (decide ((↑c.length : Int) > (0 : Int))) with
      | true =>
       have g0 := neF h0; have g1 := neT h1; have g2 := neF h2; have g3 := of_decide_eq_false h3; have g4 := of_decide_eq_false h4; have g5 := of_decide_eq_true h5; exact Obl.goal (K := fun _ => False) mix (fun _ h => h.elim) (cast (zhO _ a b c _).symm ⟨h0, h1, h2, h3, h4, h5, congrArg (AV.int .i64) (zA (by omega) (by omega)).symm⟩)
      | false =>
       have g0 := neF h0; have g1 := neT h1; have g2 := neF h2; have g3 := of_decide_eq_false h3; have g4 := of_decide_eq_false h4; have g5 := of_decide_eq_false h5; exact Obl.goal (K := fun _ => False) mix (fun _ h => h.elim) (cast (zh5 _ a b c _).symm ⟨h0, h1, h2, h3, h4, h5, congrArg (AV.int .i64) (qi (by omega) (by omega)).symm⟩)
  | false =>
   cases h2 : ((!c == ([] : List UInt8))) with
   | true =>
    have g0 := neF h0; have g1 := neF h1; have g2 := neT h2; exact Obl.goal (K := fun _ => False) mix (fun _ h => h.elim) (cast (zot _ a b c _).symm ⟨h0, h1, h2, congrArg (AV.int .i64) (zaP (by omega)).symm⟩)
   | false =>
    cases h3 : (decide ((↑a.length : Int) > (64 : Int))) with
    | true =>
     have g0 := neF h0; have g1 := neF h1; have g2 := neF h2; have g3 := of_decide_eq_true h3; exact Obl.goal (K := fun _ => False) mix (fun _ h => h.elim) (cast (zmS _ a b c _).symm ⟨h0, h1, h2, h3, congrArg (AV.int .i64) (zA (by omega) (by omega)).symm⟩)
    | false =>
     cases h4 : (decide ((↑b.length : Int) > (200 : Int))) with
     | true =>
      have g0 := neF h0; have g1 := neF h1; have g2 := neF h2; have g3 := of_decide_eq_false h3; have g4 := of_decide_eq_true h4; exact Obl.goal (K := fun _ => False) mix (fun _ h => h.elim) (cast (zle _ a b c _).symm ⟨h0, h1, h2, h3, h4, congrArg (AV.int .i64) (zA (by omega) (by omega)).symm⟩)
     | false =>
      cases h5 : (decide ((↑c.length : Int) > (0 : Int))) with
      | true =>
       have g0 := neF h0; have g1 := neF h1; have g2 := neF h2; have g3 := of_decide_eq_false h3; have g4 := of_decide_eq_false h4; have g5 := of_decide_eq_true h5; exact Obl.goal (K := fun _ => False) mix (fun _ h => h.elim) (cast (ziH _ a b c _).symm ⟨h0, h1, h2, h3, h4, h5, congrArg (AV.int .i64) (zA (by omega) (by omega)).symm⟩)
      | false =>
       have g0 := neF h0; have g1 := neF h1; have g2 := neF h2; have g3 := of_decide_eq_false h3; have g4 := of_decide_eq_false h4; have g5 := of_decide_eq_false h5; exact Obl.goal (K := fun _ => False) mix (fun _ h => h.elim) (cast (ziN _ a b c _).symm ⟨h0, h1, h2, h3, h4, h5, congrArg (AV.int .i64) (qi (by omega) (by omega)).symm⟩)
section
set_option linter.unusedSectionVars false
variable (R : AV → Prop) (a b c : List UInt8) (_K : AM → Prop)
include R a b c _K
theorem znt : Obl P 64 (fun v _ => R v) 0 _K [.run 248, .know 7 true, .run 49, .know 7 true, .run 49, .know 7 true, .run 133, .know 18 true, .run 26, .done] ((zc P 64 [.agg [.int .i64 5, .str a, .str b, .str c]] GW)) = (((!a == ([] : List UInt8)) = true) ∧ ((!b == ([] : List UInt8)) = true) ∧ ((!c == ([] : List UInt8)) = true) ∧ (decide ((↑a.length : Int) > (64 : Int)) = true) ∧ (R (.int .i64 3))) := by kernel_rfl
theorem zll : Obl P 64 (fun v _ => R v) 0 _K [.run 248, .know 7 true, .run 49, .know 7 true, .run 49, .know 7 true, .run 133, .know 18 false, .run 47, .know 18 true, .run 26, .done] ((zc P 64 [.agg [.int .i64 5, .str a, .str b, .str c]] GW)) = (((!a == ([] : List UInt8)) = true) ∧ ((!b == ([] : List UInt8)) = true) ∧ ((!c == ([] : List UInt8)) = true) ∧ (decide ((↑a.length : Int) > (64 : Int)) = false) ∧ (decide ((↑b.length : Int) > (200 : Int)) = true) ∧ (R (.int .i64 3))) := by kernel_rfl
theorem zjj : Obl P 64 (fun v _ => R v) 0 _K [.run 248, .know 7 true, .run 49, .know 7 true, .run 49, .know 7 true, .run 133, .know 18 false, .run 47, .know 18 false, .run 47, .know 18 true, .run 26, .done] ((zc P 64 [.agg [.int .i64 5, .str a, .str b, .str c]] GW)) = (((!a == ([] : List UInt8)) = true) ∧ ((!b == ([] : List UInt8)) = true) ∧ ((!c == ([] : List UInt8)) = true) ∧ (decide ((↑a.length : Int) > (64 : Int)) = false) ∧ (decide ((↑b.length : Int) > (200 : Int)) = false) ∧ (decide ((↑c.length : Int) > (5000 : Int)) = true) ∧ (R (.int .i64 3))) := by kernel_rfl
theorem ziq : Obl P 64 (fun v _ => R v) 0 _K [.run 248, .know 7 true, .run 49, .know 7 true, .run 49, .know 7 true, .run 133, .know 18 false, .run 47, .know 18 false, .run 47, .know 18 false, .run 52, .done] ((zc P 64 [.agg [.int .i64 5, .str a, .str b, .str c]] GW)) = (((!a == ([] : List UInt8)) = true) ∧ ((!b == ([] : List UInt8)) = true) ∧ ((!c == ([] : List UInt8)) = true) ∧ (decide ((↑a.length : Int) > (64 : Int)) = false) ∧ (decide ((↑b.length : Int) > (200 : Int)) = false) ∧ (decide ((↑c.length : Int) > (5000 : Int)) = false) ∧ (R (.int .i64 0))) := by kernel_rfl
theorem zmE : Obl P 64 (fun v _ => R v) 0 _K [.run 248, .know 7 true, .run 49, .know 7 true, .run 49, .know 7 false, .run 133, .know 18 true, .run 26, .done] ((zc P 64 [.agg [.int .i64 5, .str a, .str b, .str c]] GW)) = (((!a == ([] : List UInt8)) = true) ∧ ((!b == ([] : List UInt8)) = true) ∧ ((!c == ([] : List UInt8)) = false) ∧ (decide ((↑a.length : Int) > (64 : Int)) = true) ∧ (R (.int .i64 3))) := by kernel_rfl
theorem zkC : Obl P 64 (fun v _ => R v) 0 _K [.run 248, .know 7 true, .run 49, .know 7 true, .run 49, .know 7 false, .run 133, .know 18 false, .run 47, .know 18 true, .run 26, .done] ((zc P 64 [.agg [.int .i64 5, .str a, .str b, .str c]] GW)) = (((!a == ([] : List UInt8)) = true) ∧ ((!b == ([] : List UInt8)) = true) ∧ ((!c == ([] : List UInt8)) = false) ∧ (decide ((↑a.length : Int) > (64 : Int)) = false) ∧ (decide ((↑b.length : Int) > (200 : Int)) = true) ∧ (R (.int .i64 3))) := by kernel_rfl
theorem zhn : Obl P 64 (fun v _ => R v) 0 _K [.run 248, .know 7 true, .run 49, .know 7 true, .run 49, .know 7 false, .run 133, .know 18 false, .run 47, .know 18 false, .run 47, .know 18 true, .run 26, .done] ((zc P 64 [.agg [.int .i64 5, .str a, .str b, .str c]] GW)) = (((!a == ([] : List UInt8)) = true) ∧ ((!b == ([] : List UInt8)) = true) ∧ ((!c == ([] : List UInt8)) = false) ∧ (decide ((↑a.length : Int) > (64 : Int)) = false) ∧ (decide ((↑b.length : Int) > (200 : Int)) = false) ∧ (decide ((↑c.length : Int) > (5000 : Int)) = true) ∧ (R (.int .i64 3))) := by kernel_rfl
theorem zjg : Obl P 64 (fun v _ => R v) 0 _K [.run 248, .know 7 true, .run 49, .know 7 true, .run 49, .know 7 false, .run 133, .know 18 false, .run 47, .know 18 false, .run 47, .know 18 false, .run 52, .done] ((zc P 64 [.agg [.int .i64 5, .str a, .str b, .str c]] GW)) = (((!a == ([] : List UInt8)) = true) ∧ ((!b == ([] : List UInt8)) = true) ∧ ((!c == ([] : List UInt8)) = false) ∧ (decide ((↑a.length : Int) > (64 : Int)) = false) ∧ (decide ((↑b.length : Int) > (200 : Int)) = false) ∧ (decide ((↑c.length : Int) > (5000 : Int)) = false) ∧ (R (.int .i64 0))) := by kernel_rfl
theorem znC : Obl P 64 (fun v _ => R v) 0 _K [.run 248, .know 7 true, .run 49, .know 7 false, .run 49, .know 7 true, .run 133, .know 18 true, .run 26, .done] ((zc P 64 [.agg [.int .i64 5, .str a, .str b, .str c]] GW)) = (((!a == ([] : List UInt8)) = true) ∧ ((!b == ([] : List UInt8)) = false) ∧ ((!c == ([] : List UInt8)) = true) ∧ (decide ((↑a.length : Int) > (64 : Int)) = true) ∧ (R (.int .i64 3))) := by kernel_rfl
theorem zko : Obl P 64 (fun v _ => R v) 0 _K [.run 248, .know 7 true, .run 49, .know 7 false, .run 49, .know 7 true, .run 133, .know 18 false, .run 47, .know 18 true, .run 26, .done] ((zc P 64 [.agg [.int .i64 5, .str a, .str b, .str c]] GW)) = (((!a == ([] : List UInt8)) = true) ∧ ((!b == ([] : List UInt8)) = false) ∧ ((!c == ([] : List UInt8)) = true) ∧ (decide ((↑a.length : Int) > (64 : Int)) = false) ∧ (decide ((↑b.length : Int) > (200 : Int)) = true) ∧ (R (.int .i64 3))) := by kernel_rfl
theorem zh9 : Obl P 64 (fun v _ => R v) 0 _K [.run 248, .know 7 true, .run 49, .know 7 false, .run 49, .know 7 true, .run 133, .know 18 false, .run 47, .know 18 false, .run 47, .know 18 true, .run 26, .done] ((zc P 64 [.agg [.int .i64 5, .str a, .str b, .str c]] GW)) = (((!a == ([] : List UInt8)) = true) ∧ ((!b == ([] : List UInt8)) = false) ∧ ((!c == ([] : List UInt8)) = true) ∧ (decide ((↑a.length : Int) > (64 : Int)) = false) ∧ (decide ((↑b.length : Int) > (200 : Int)) = false) ∧ (decide ((↑c.length : Int) > (5000 : Int)) = true) ∧ (R (.int .i64 3))) := by kernel_rfl
theorem zhL : Obl P 64 (fun v _ => R v) 0 _K [.run 248, .know 7 true, .run 49, .know 7 false, .run 49, .know 7 true, .run 133, .know 18 false, .run 47, .know 18 false, .run 47, .know 18 false, .run 52, .done] ((zc P 64 [.agg [.int .i64 5, .str a, .str b, .str c]] GW)) = (((!a == ([] : List UInt8)) = true) ∧ ((!b == ([] : List UInt8)) = false) ∧ ((!c == ([] : List UInt8)) = true) ∧ (decide ((↑a.length : Int) > (64 : Int)) = false) ∧ (decide ((↑b.length : Int) > (200 : Int)) = false) ∧ (decide ((↑c.length : Int) > (5000 : Int)) = false) ∧ (R (.int .i64 0))) := by kernel_rfl
theorem zms : Obl P 64 (fun v _ => R v) 0 _K [.run 248, .know 7 true, .run 49, .know 7 false, .run 49, .know 7 false, .run 133, .know 18 true, .run 26, .done] ((zc P 64 [.agg [.int .i64 5, .str a, .str b, .str c]] GW)) = (((!a == ([] : List UInt8)) = true) ∧ ((!b == ([] : List UInt8)) = false) ∧ ((!c == ([] : List UInt8)) = false) ∧ (decide ((↑a.length : Int) > (64 : Int)) = true) ∧ (R (.int .i64 3))) := by kernel_rfl
theorem zlr : Obl P 64 (fun v _ => R v) 0 _K [.run 248, .know 7 true, .run 49, .know 7 false, .run 49, .know 7 false, .run 133, .know 18 false, .run 47, .know 18 true, .run 26, .done] ((zc P 64 [.agg [.int .i64 5, .str a, .str b, .str c]] GW)) = (((!a == ([] : List UInt8)) = true) ∧ ((!b == ([] : List UInt8)) = false) ∧ ((!c == ([] : List UInt8)) = false) ∧ (decide ((↑a.length : Int) > (64 : Int)) = false) ∧ (decide ((↑b.length : Int) > (200 : Int)) = true) ∧ (R (.int .i64 3))) := by kernel_rfl
theorem ziK : Obl P 64 (fun v _ => R v) 0 _K [.run 248, .know 7 true, .run 49, .know 7 false, .run 49, .know 7 false, .run 133, .know 18 false, .run 47, .know 18 false, .run 47, .know 18 true, .run 26, .done] ((zc P 64 [.agg [.int .i64 5, .str a, .str b, .str c]] GW)) = (((!a == ([] : List UInt8)) = true) ∧ ((!b == ([] : List UInt8)) = false) ∧ ((!c == ([] : List UInt8)) = false) ∧ (decide ((↑a.length : Int) > (64 : Int)) = false) ∧ (decide ((↑b.length : Int) > (200 : Int)) = false) ∧ (decide ((↑c.length : Int) > (5000 : Int)) = true) ∧ (R (.int .i64 3))) := by kernel_rfl
theorem zhh : Obl P 64 (fun v _ => R v) 0 _K [.run 248, .know 7 true, .run 49, .know 7 false, .run 49, .know 7 false, .run 133, .know 18 false, .run 47, .know 18 false, .run 47, .know 18 false, .run 52, .done] ((zc P 64 [.agg [.int .i64 5, .str a, .str b, .str c]] GW)) = (((!a == ([] : List UInt8)) = true) ∧ ((!b == ([] : List UInt8)) = false) ∧ ((!c == ([] : List UInt8)) = false) ∧ (decide ((↑a.length : Int) > (64 : Int)) = false) ∧ (decide ((↑b.length : Int) > (200 : Int)) = false) ∧ (decide ((↑c.length : Int) > (5000 : Int)) = false) ∧ (R (.int .i64 0))) := by kernel_rfl
theorem znP : Obl P 64 (fun v _ => R v) 0 _K [.run 248, .know 7 false, .run 49, .know 7 true, .run 49, .know 7 true, .run 133, .know 18 true, .run 26, .done] ((zc P 64 [.agg [.int .i64 5, .str a, .str b, .str c]] GW)) = (((!a == ([] : List UInt8)) = false) ∧ ((!b == ([] : List UInt8)) = true) ∧ ((!c == ([] : List UInt8)) = true) ∧ (decide ((↑a.length : Int) > (64 : Int)) = true) ∧ (R (.int .i64 3))) := by kernel_rfl
theorem zkl : Obl P 64 (fun v _ => R v) 0 _K [.run 248, .know 7 false, .run 49, .know 7 true, .run 49, .know 7 true, .run 133, .know 18 false, .run 47, .know 18 true, .run 26, .done] ((zc P 64 [.agg [.int .i64 5, .str a, .str b, .str c]] GW)) = (((!a == ([] : List UInt8)) = false) ∧ ((!b == ([] : List UInt8)) = true) ∧ ((!c == ([] : List UInt8)) = true) ∧ (decide ((↑a.length : Int) > (64 : Int)) = false) ∧ (decide ((↑b.length : Int) > (200 : Int)) = true) ∧ (R (.int .i64 3))) := by kernel_rfl
theorem zhs : Obl P 64 (fun v _ => R v) 0 _K [.run 248, .know 7 false, .run 49, .know 7 true, .run 49, .know 7 true, .run 133, .know 18 false, .run 47, .know 18 false, .run 47, .know 18 true, .run 26, .done] ((zc P 64 [.agg [.int .i64 5, .str a, .str b, .str c]] GW)) = (((!a == ([] : List UInt8)) = false) ∧ ((!b == ([] : List UInt8)) = true) ∧ ((!c == ([] : List UInt8)) = true) ∧ (decide ((↑a.length : Int) > (64 : Int)) = false) ∧ (decide ((↑b.length : Int) > (200 : Int)) = false) ∧ (decide ((↑c.length : Int) > (5000 : Int)) = true) ∧ (R (.int .i64 3))) := by kernel_rfl
theorem zjc : Obl P 64 (fun v _ => R v) 0 _K [.run 248, .know 7 false, .run 49, .know 7 true, .run 49, .know 7 true, .run 133, .know 18 false, .run 47, .know 18 false, .run 47, .know 18 false, .run 52, .done] ((zc P 64 [.agg [.int .i64 5, .str a, .str b, .str c]] GW)) = (((!a == ([] : List UInt8)) = false) ∧ ((!b == ([] : List UInt8)) = true) ∧ ((!c == ([] : List UInt8)) = true) ∧ (decide ((↑a.length : Int) > (64 : Int)) = false) ∧ (decide ((↑b.length : Int) > (200 : Int)) = false) ∧ (decide ((↑c.length : Int) > (5000 : Int)) = false) ∧ (R (.int .i64 0))) := by kernel_rfl
theorem zmF : Obl P 64 (fun v _ => R v) 0 _K [.run 248, .know 7 false, .run 49, .know 7 true, .run 49, .know 7 false, .run 133, .know 18 true, .run 26, .done] ((zc P 64 [.agg [.int .i64 5, .str a, .str b, .str c]] GW)) = (((!a == ([] : List UInt8)) = false) ∧ ((!b == ([] : List UInt8)) = true) ∧ ((!c == ([] : List UInt8)) = false) ∧ (decide ((↑a.length : Int) > (64 : Int)) = true) ∧ (R (.int .i64 3))) := by kernel_rfl
theorem zlG : Obl P 64 (fun v _ => R v) 0 _K [.run 248, .know 7 false, .run 49, .know 7 true, .run 49, .know 7 false, .run 133, .know 18 false, .run 47, .know 18 true, .run 26, .done] ((zc P 64 [.agg [.int .i64 5, .str a, .str b, .str c]] GW)) = (((!a == ([] : List UInt8)) = false) ∧ ((!b == ([] : List UInt8)) = true) ∧ ((!c == ([] : List UInt8)) = false) ∧ (decide ((↑a.length : Int) > (64 : Int)) = false) ∧ (decide ((↑b.length : Int) > (200 : Int)) = true) ∧ (R (.int .i64 3))) := by kernel_rfl
theorem zg4 : Obl P 64 (fun v _ => R v) 0 _K [.run 248, .know 7 false, .run 49, .know 7 true, .run 49, .know 7 false, .run 133, .know 18 false, .run 47, .know 18 false, .run 47, .know 18 true, .run 26, .done] ((zc P 64 [.agg [.int .i64 5, .str a, .str b, .str c]] GW)) = (((!a == ([] : List UInt8)) = false) ∧ ((!b == ([] : List UInt8)) = true) ∧ ((!c == ([] : List UInt8)) = false) ∧ (decide ((↑a.length : Int) > (64 : Int)) = false) ∧ (decide ((↑b.length : Int) > (200 : Int)) = false) ∧ (decide ((↑c.length : Int) > (5000 : Int)) = true) ∧ (R (.int .i64 3))) := by kernel_rfl
theorem ziX : Obl P 64 (fun v _ => R v) 0 _K [.run 248, .know 7 false, .run 49, .know 7 true, .run 49, .know 7 false, .run 133, .know 18 false, .run 47, .know 18 false, .run 47, .know 18 false, .run 52, .done] ((zc P 64 [.agg [.int .i64 5, .str a, .str b, .str c]] GW)) = (((!a == ([] : List UInt8)) = false) ∧ ((!b == ([] : List UInt8)) = true) ∧ ((!c == ([] : List UInt8)) = false) ∧ (decide ((↑a.length : Int) > (64 : Int)) = false) ∧ (decide ((↑b.length : Int) > (200 : Int)) = false) ∧ (decide ((↑c.length : Int) > (5000 : Int)) = false) ∧ (R (.int .i64 0))) := by kernel_rfl
theorem zm2 : Obl P 64 (fun v _ => R v) 0 _K [.run 248, .know 7 false, .run 49, .know 7 false, .run 49, .know 7 true, .run 133, .know 18 true, .run 26, .done] ((zc P 64 [.agg [.int .i64 5, .str a, .str b, .str c]] GW)) = (((!a == ([] : List UInt8)) = false) ∧ ((!b == ([] : List UInt8)) = false) ∧ ((!c == ([] : List UInt8)) = true) ∧ (decide ((↑a.length : Int) > (64 : Int)) = true) ∧ (R (.int .i64 3))) := by kernel_rfl
theorem zk2 : Obl P 64 (fun v _ => R v) 0 _K [.run 248, .know 7 false, .run 49, .know 7 false, .run 49, .know 7 true, .run 133, .know 18 false, .run 47, .know 18 true, .run 26, .done] ((zc P 64 [.agg [.int .i64 5, .str a, .str b, .str c]] GW)) = (((!a == ([] : List UInt8)) = false) ∧ ((!b == ([] : List UInt8)) = false) ∧ ((!c == ([] : List UInt8)) = true) ∧ (decide ((↑a.length : Int) > (64 : Int)) = false) ∧ (decide ((↑b.length : Int) > (200 : Int)) = true) ∧ (R (.int .i64 3))) := by kernel_rfl
theorem zj5 : Obl P 64 (fun v _ => R v) 0 _K [.run 248, .know 7 false, .run 49, .know 7 false, .run 49, .know 7 true, .run 133, .know 18 false, .run 47, .know 18 false, .run 47, .know 18 true, .run 26, .done] ((zc P 64 [.agg [.int .i64 5, .str a, .str b, .str c]] GW)) = (((!a == ([] : List UInt8)) = false) ∧ ((!b == ([] : List UInt8)) = false) ∧ ((!c == ([] : List UInt8)) = true) ∧ (decide ((↑a.length : Int) > (64 : Int)) = false) ∧ (decide ((↑b.length : Int) > (200 : Int)) = false) ∧ (decide ((↑c.length : Int) > (5000 : Int)) = true) ∧ (R (.int .i64 3))) := by kernel_rfl
theorem ziW : Obl P 64 (fun v _ => R v) 0 _K [.run 248, .know 7 false, .run 49, .know 7 false, .run 49, .know 7 true, .run 133, .know 18 false, .run 47, .know 18 false, .run 47, .know 18 false, .run 52, .done] ((zc P 64 [.agg [.int .i64 5, .str a, .str b, .str c]] GW)) = (((!a == ([] : List UInt8)) = false) ∧ ((!b == ([] : List UInt8)) = false) ∧ ((!c == ([] : List UInt8)) = true) ∧ (decide ((↑a.length : Int) > (64 : Int)) = false) ∧ (decide ((↑b.length : Int) > (200 : Int)) = false) ∧ (decide ((↑c.length : Int) > (5000 : Int)) = false) ∧ (R (.int .i64 0))) := by kernel_rfl
theorem zn1 : Obl P 64 (fun v _ => R v) 0 _K [.run 248, .know 7 false, .run 49, .know 7 false, .run 49, .know 7 false, .run 133, .know 18 true, .run 26, .done] ((zc P 64 [.agg [.int .i64 5, .str a, .str b, .str c]] GW)) = (((!a == ([] : List UInt8)) = false) ∧ ((!b == ([] : List UInt8)) = false) ∧ ((!c == ([] : List UInt8)) = false) ∧ (decide ((↑a.length : Int) > (64 : Int)) = true) ∧ (R (.int .i64 3))) := by kernel_rfl
theorem zlf : Obl P 64 (fun v _ => R v) 0 _K [.run 248, .know 7 false, .run 49, .know 7 false, .run 49, .know 7 false, .run 133, .know 18 false, .run 47, .know 18 true, .run 26, .done] ((zc P 64 [.agg [.int .i64 5, .str a, .str b, .str c]] GW)) = (((!a == ([] : List UInt8)) = false) ∧ ((!b == ([] : List UInt8)) = false) ∧ ((!c == ([] : List UInt8)) = false) ∧ (decide ((↑a.length : Int) > (64 : Int)) = false) ∧ (decide ((↑b.length : Int) > (200 : Int)) = true) ∧ (R (.int .i64 3))) := by kernel_rfl
theorem zjl : Obl P 64 (fun v _ => R v) 0 _K [.run 248, .know 7 false, .run 49, .know 7 false, .run 49, .know 7 false, .run 133, .know 18 false, .run 47, .know 18 false, .run 47, .know 18 true, .run 26, .done] ((zc P 64 [.agg [.int .i64 5, .str a, .str b, .str c]] GW)) = (((!a == ([] : List UInt8)) = false) ∧ ((!b == ([] : List UInt8)) = false) ∧ ((!c == ([] : List UInt8)) = false) ∧ (decide ((↑a.length : Int) > (64 : Int)) = false) ∧ (decide ((↑b.length : Int) > (200 : Int)) = false) ∧ (decide ((↑c.length : Int) > (5000 : Int)) = true) ∧ (R (.int .i64 3))) := by kernel_rfl
theorem zgT : Obl P 64 (fun v _ => R v) 0 _K [.run 248, .know 7 false, .run 49, .know 7 false, .run 49, .know 7 false, .run 133, .know 18 false, .run 47, .know 18 false, .run 47, .know 18 false, .run 52, .done] ((zc P 64 [.agg [.int .i64 5, .str a, .str b, .str c]] GW)) = (((!a == ([] : List UInt8)) = false) ∧ ((!b == ([] : List UInt8)) = false) ∧ ((!c == ([] : List UInt8)) = false) ∧ (decide ((↑a.length : Int) > (64 : Int)) = false) ∧ (decide ((↑b.length : Int) > (200 : Int)) = false) ∧ (decide ((↑c.length : Int) > (5000 : Int)) = false) ∧ (R (.int .i64 0))) := by kernel_rfl
end
theorem zo5 (a b c : List UInt8) : Goal P 0 64 (fun v _ => v = .int .i64 (zd2 64 200 5000 a b c)) (zc P 64 [.agg [.int .i64 5, .str a, .str b, .str c]] GW) := by
 cases h0 : ((!a == ([] : List UInt8))) with
 | true =>
  cases h1 : ((!b == ([] : List UInt8))) with
  | true =>
   cases h2 : ((!c == ([] : List UInt8))) with
   | true =>
    cases h3 : (decide ((↑a.length : Int) > (64 : Int))) with
    | true =>
     have g0 := neT h0; have g1 := neT h1; have g2 := neT h2; have g3 := of_decide_eq_true h3; exact Obl.goal (K := fun _ => False) mix (fun _ h => h.elim) (cast (znt _ a b c _).symm ⟨h0, h1, h2, h3, congrArg (AV.int .i64) (zA (by omega) (by omega)).symm⟩)
    | false =>
     cases h4 : (decide ((↑b.length : Int) > (200 : Int))) with
     | true =>
      have g0 := neT h0; have g1 := neT h1; have g2 := neT h2; have g3 := of_decide_eq_false h3; have g4 := of_decide_eq_true h4; exact Obl.goal (K := fun _ => False) mix (fun _ h => h.elim) (cast (zll _ a b c _).symm ⟨h0, h1, h2, h3, h4, congrArg (AV.int .i64) (zA (by omega) (by omega)).symm⟩)
     | false =>
      cases h5 : (decide ((↑c.length : Int) > (5000 : Int))) with
      | true =>
       have g0 := neT h0; have g1 := neT h1; have g2 := neT h2; have g3 := of_decide_eq_false h3; have g4 := of_decide_eq_false h4; have g5 := of_decide_eq_true h5; exact Obl.goal (K := fun _ => False) mix (fun _ h => h.elim) (cast (zjj _ a b c _).symm ⟨h0, h1, h2, h3, h4, h5, congrArg (AV.int .i64) (zA (by omega) (by omega)).symm⟩)
      | false =>
       have g0 := neT h0; have g1 := neT h1; have g2 := neT h2; have g3 := of_decide_eq_false h3; have g4 := of_decide_eq_false h4; have g5 := of_decide_eq_false h5; exact Obl.goal (K := fun _ => False) mix (fun _ h => h.elim) (cast (ziq _ a b c _).symm ⟨h0, h1, h2, h3, h4, h5, congrArg (AV.int .i64) (qi (by omega) (by omega)).symm⟩)
   | false =>
    cases h3 : (decide ((↑a.length : Int) > (64 : Int))) with
    | true =>
     have g0 := neT h0; have g1 := neT h1; have g2 := neF h2; have g3 := of_decide_eq_true h3; exact Obl.goal (K := fun _ => False) mix (fun _ h => h.elim) (cast (zmE _ a b c _).symm ⟨h0, h1, h2, h3, congrArg (AV.int .i64) (zA (by omega) (by omega)).symm⟩)
    | false =>
     cases h4 : (decide ((↑b.length : Int) > (200 : Int))) with
     | true =>
      have g0 := neT h0; have g1 := neT h1; have g2 := neF h2; have g3 := of_decide_eq_false h3; have g4 := of_decide_eq_true h4; exact Obl.goal (K := fun _ => False) mix (fun _ h => h.elim) (cast (zkC _ a b c _).symm ⟨h0, h1, h2, h3, h4, congrArg (AV.int .i64) (zA (by omega) (by omega)).symm⟩)
     | false =>
      cases h5 : (decide ((↑c.length : Int) > (5000 : Int))) with
      | true =>
       have g0 := neT h0; have g1 := neT h1; have g2 := neF h2; have g3 := of_decide_eq_false h3; have g4 := of_decide_eq_false h4; have g5 := of_decide_eq_true h5; exact Obl.goal (K := fun _ => False) mix (fun _ h => h.elim) (cast (zhn _ a b c _).symm ⟨h0, h1, h2, h3, h4, h5, congrArg (AV.int .i64) (zA (by omega) (by omega)).symm⟩)
      | false =>
       have g0 := neT h0; have g1 := neT h1; have g2 := neF h2; have g3 := of_decide_eq_false h3; have g4 := of_decide_eq_false h4; have g5 := of_decide_eq_false h5; exact Obl.goal (K := fun _ => False) mix (fun _ h => h.elim) (cast (zjg _ a b c _).symm ⟨h0, h1, h2, h3, h4, h5, congrArg (AV.int .i64) (qi (by omega) (by omega)).symm⟩)
  | false =>
   cases h2 : ((!c == ([] : List UInt8))) with
   | true =>
    cases h3 : (decide ((↑a.length : Int) > (64 : Int))) with
    | true =>
     have g0 := neT h0; have g1 := neF h1; have g2 := neT h2; have g3 := of_decide_eq_true h3; exact Obl.goal (K := fun _ => False) mix (fun _ h => h.elim) (cast (znC _ a b c _).symm ⟨h0, h1, h2, h3, congrArg (AV.int .i64) (zA (by omega) (by omega)).symm⟩)
    | false =>
     cases h4 : (decide ((↑b.length : Int) > (200 : Int))) with
     | true =>
      have g0 := neT h0; have g1 := neF h1; have g2 := neT h2; have g3 := of_decide_eq_false h3; have g4 := of_decide_eq_true h4; exact Obl.goal (K := fun _ => False) mix (fun _ h => h.elim) (cast (zko _ a b c _).symm ⟨h0, h1, h2, h3, h4, congrArg (AV.int .i64) (zA (by omega) (by omega)).symm⟩)
     | false =>
      cases h5 : (decide ((↑c.length : Int) > (5000 : Int))) with
      | true =>
       have g0 := neT h0; have g1 := neF h1; have g2 := neT h2; have g3 := of_decide_eq_false h3; have g4 := of_decide_eq_false h4; have g5 := of_decide_eq_true h5; exact Obl.goal (K := fun _ => False) mix (fun _ h => h.elim) (cast (zh9 _ a b c _).symm ⟨h0, h1, h2, h3, h4, h5, congrArg (AV.int .i64) (zA (by omega) (by omega)).symm⟩)
      | false =>
       have g0 := neT h0; have g1 := neF h1; have g2 := neT h2; have g3 := of_decide_eq_false h3; have g4 := of_decide_eq_false h4; have g5 := of_decide_eq_false h5; exact Obl.goal (K := fun _ => False) mix (fun _ h => h.elim) (cast (zhL _ a b c _).symm ⟨h0, h1, h2, h3, h4, h5, congrArg (AV.int .i64) (qi (by omega) (by omega)).symm⟩)
   | false =>
    cases h3 : (decide ((↑a.length : Int) > (64 : Int))) with
    | true =>
     have g0 := neT h0; have g1 := neF h1; have g2 := neF h2; have g3 := of_decide_eq_true h3; exact Obl.goal (K := fun _ => False) mix (fun _ h => h.elim) (cast (zms _ a b c _).symm ⟨h0, h1, h2, h3, congrArg (AV.int .i64) (zA (by omega) (by omega)).symm⟩)
    | false =>
     cases h4 : (decide ((↑b.length : Int) > (200 : Int))) with
     | true =>
      have g0 := neT h0; have g1 := neF h1; have g2 := neF h2; have g3 := of_decide_eq_false h3; have g4 := of_decide_eq_true h4; exact Obl.goal (K := fun _ => False) mix (fun _ h => h.elim) (cast (zlr _ a b c _).symm ⟨h0, h1, h2, h3, h4, congrArg (AV.int .i64) (zA (by omega) (by omega)).symm⟩)
     | false =>
      cases h5 : (decide ((↑c.length : Int) > (5000 : Int))) with
      | true =>
       have g0 := neT h0; have g1 := neF h1; have g2 := neF h2; have g3 := of_decide_eq_false h3; have g4 := of_decide_eq_false h4; have g5 := of_decide_eq_true h5; exact Obl.goal (K := fun _ => False) mix (fun _ h => h.elim) (cast (ziK _ a b c _).symm ⟨h0, h1, h2, h3, h4, h5, congrArg (AV.int .i64) (zA (by omega) (by omega)).symm⟩)
      | false =>
       have g0 := neT h0; have g1 := neF h1; have g2 := neF h2; have g3 := of_decide_eq_false h3; have g4 := of_decide_eq_false h4; have g5 := of_decide_eq_false h5; exact Obl.goal (K := fun _ => False) mix (fun _ h => h.elim) (cast (zhh _ a b c _).symm ⟨h0, h1, h2, h3, h4, h5, congrArg (AV.int .i64) (qi (by omega) (by omega)).symm⟩)
 | false =>
  cases h1 : ((!b == ([] : List UInt8))) with
  | true =>
   cases h2 : ((!c == ([] : List UInt8))) with
   | true =>
    cases h3 : (decide ((↑a.length : Int) > (64 : Int))) with
    | true =>
     have g0 := neF h0; have g1 := neT h1; have g2 := neT h2; have g3 := of_decide_eq_true h3; exact Obl.goal (K := fun _ => False) mix (fun _ h => h.elim) (cast (znP _ a b c _).symm ⟨h0, h1, h2, h3, congrArg (AV.int .i64) (zA (by omega) (by omega)).symm⟩)
    | false =>
     cases h4 : (decide ((↑b.length : Int) > (200 : Int))) with
     | true =>
      have g0 := neF h0; have g1 := neT h1; have g2 := neT h2; have g3 := of_decide_eq_false h3; have g4 := of_decide_eq_true h4; exact Obl.goal (K := fun _ => False) mix (fun _ h => h.elim) (cast (zkl _ a b c _).symm ⟨h0, h1, h2, h3, h4, congrArg (AV.int .i64) (zA (by omega) (by omega)).symm⟩)
     | false =>
      cases h5 : (decide ((↑c.length : Int) > (5000 : Int))) with
      | true =>
       have g0 := neF h0; have g1 := neT h1; have g2 := neT h2; have g3 := of_decide_eq_false h3; have g4 := of_decide_eq_false h4; have g5 := of_decide_eq_true h5; exact Obl.goal (K := fun _ => False) mix (fun _ h => h.elim) (cast (zhs _ a b c _).symm ⟨h0, h1, h2, h3, h4, h5, congrArg (AV.int .i64) (zA (by omega) (by omega)).symm⟩)
      | false =>
       have g0 := neF h0; have g1 := neT h1; have g2 := neT h2; have g3 := of_decide_eq_false h3; have g4 := of_decide_eq_false h4; have g5 := of_decide_eq_false h5; exact Obl.goal (K := fun _ => False) mix (fun _ h => h.elim) (cast (zjc _ a b c _).symm ⟨h0, h1, h2, h3, h4, h5, congrArg (AV.int .i64) (qi (by omega) (by omega)).symm⟩)
   | false =>
    cases h3 : (decide ((↑a.length : Int) > (64 : Int))) with
    | true =>
     have g0 := neF h0; have g1 := neT h1; have g2 := neF h2; have g3 := of_decide_eq_true h3; exact Obl.goal (K := fun _ => False) mix (fun _ h => h.elim) (cast (zmF _ a b c _).symm ⟨h0, h1, h2, h3, congrArg (AV.int .i64) (zA (by omega) (by omega)).symm⟩)
    | false =>
     cases h4 : (decide ((↑b.length : Int) > (200 : Int))) with
     | true =>
      have g0 := neF h0; have g1 := neT h1; have g2 := neF h2; have g3 := of_decide_eq_false h3; have g4 := of_decide_eq_true h4; exact Obl.goal (K := fun _ => False) mix (fun _ h => h.elim) (cast (zlG _ a b c _).symm ⟨h0, h1, h2, h3, h4, congrArg (AV.int .i64) (zA (by omega) (by omega)).symm⟩)
     | false =>
      cases h5 : (decide ((↑c.length : Int) > (5000 : Int))) with
      | true =>
       have g0 := neF h0; have g1 := neT h1; have g2 := neF h2; have g3 := of_decide_eq_false h3; have g4 := of_decide_eq_false h4; have g5 := of_decide_eq_true h5; exact Obl.goal (K := fun _ => False) mix (fun _ h => h.elim) (cast (zg4 _ a b c _).symm ⟨h0, h1, h2, h3, h4, h5, congrArg (AV.int .i64) (zA (by omega) (by omega)).symm⟩)
      | false =>
       have g0 := neF h0; have g1 := neT h1; have g2 := neF h2; have g3 := of_decide_eq_false h3; have g4 := of_decide_eq_false h4; have g5 := of_decide_eq_false h5; exact Obl.goal (K := fun _ => False) mix (fun _ h => h.elim) (cast (ziX _ a b c _).symm ⟨h0, h1, h2, h3, h4, h5, congrArg (AV.int .i64) (qi (by omega) (by omega)).symm⟩)
  | false =>
   cases h2 : ((!c == ([] : List UInt8))) with
   | true =>
    cases h3 : (decide ((↑a.length : Int) > (64 : Int))) with
    | true =>
     have g0 := neF h0; have g1 := neF h1; have g2 := neT h2; have g3 := of_decide_eq_true h3; exact Obl.goal (K := fun _ => False) mix (fun _ h => h.elim) (cast (zm2 _ a b c _).symm ⟨h0, h1, h2, h3, congrArg (AV.int .i64) (zA (by omega) (by omega)).symm⟩)
    | false =>
     cases h4 : (decide ((↑b.length : Int) > (200 : Int))) with
     | true =>
      have g0 := neF h0; have g1 := neF h1; have g2 := neT h2; have g3 := of_decide_eq_false h3; have g4 := of_decide_eq_true h4; exact Obl.goal (K := fun _ => False) mix (fun _ h => h.elim) (cast (zk2 _ a b c _).symm ⟨h0, h1, h2, h3, h4, congrArg (AV.int .i64) (zA (by omega) (by omega)).symm⟩)
     | false =>
      cases h5 : (decide ((↑c.length : Int) > (5000 : Int))) with
      | true =>
       have g0 := neF h0; have g1 := neF h1; have g2 := neT h2; have g3 := of_decide_eq_false h3; have g4 := of_decide_eq_false h4; have g5 := of_decide_eq_true h5; exact Obl.goal (K := fun _ => False) mix (fun _ h => h.elim) (cast (zj5 _ a b c _).symm ⟨h0, h1, h2, h3, h4, h5, congrArg (AV.int .i64) (zA (by omega) (by omega)).symm⟩)
      | false =>
       have g0 := neF h0; have g1 := neF h1; have g2 := neT h2; have g3 := of_decide_eq_false h3; have g4 := of_decide_eq_false h4; have g5 := of_decide_eq_false h5; exact Obl.goal (K := fun _ => False) mix (fun _ h => h.elim) (cast (ziW _ a b c _).symm ⟨h0, h1, h2, h3, h4, h5, congrArg (AV.int .i64) (qi (by omega) (by omega)).symm⟩)
   | false =>
    cases h3 : (decide ((↑a.length : Int) > (64 : Int))) with
    | true =>
     have g0 := neF h0; have g1 := neF h1; have g2 := neF h2; have g3 := of_decide_eq_true h3; exact Obl.goal (K := fun _ => False) mix (fun _ h => h.elim) (cast (zn1 _ a b c _).symm ⟨h0, h1, h2, h3, congrArg (AV.int .i64) (zA (by omega) (by omega)).symm⟩)
    | false =>
     cases h4 : (decide ((↑b.length : Int) > (200 : Int))) with
     | true =>
      have g0 := neF h0; have g1 := neF h1; have g2 := neF h2; have g3 := of_decide_eq_false h3; have g4 := of_decide_eq_true h4; exact Obl.goal (K := fun _ => False) mix (fun _ h => h.elim) (cast (zlf _ a b c _).symm ⟨h0, h1, h2, h3, h4, congrArg (AV.int .i64) (zA (by omega) (by omega)).symm⟩)
     | false =>
      cases h5 : (decide ((↑c.length : Int) > (5000 : Int))) with
      | true =>
       have g0 := neF h0; have g1 := neF h1; have g2 := neF h2; have g3 := of_decide_eq_false h3; have g4 := of_decide_eq_false h4; have g5 := of_decide_eq_true h5; exact Obl.goal (K := fun _ => False) mix (fun _ h => h.elim) (cast (zjl _ a b c _).symm ⟨h0, h1, h2, h3, h4, h5, congrArg (AV.int .i64) (zA (by omega) (by omega)).symm⟩)
      | false =>
       have g0 := neF h0; have g1 := neF h1; have g2 := neF h2; have g3 := of_decide_eq_false h3; have g4 := of_decide_eq_false h4; have g5 := of_decide_eq_false h5; exact Obl.goal (K := fun _ => False) mix (fun _ h => h.elim) (cast (zgT _ a b c _).symm ⟨h0, h1, h2, h3, h4, h5, congrArg (AV.int .i64) (qi (by omega) (by omega)).symm⟩)
end Go.Proofs.YtdbfpjgnlfejmaaDoor.mq
end
section
set_option maxRecDepth 100000
set_option linter.unusedVariables false
namespace Go.Proofs.YtdbfpjgnlfejmaaDoor.mq
open Go Ev
section
set_option linter.unusedSectionVars false
variable (R : AV → Prop) (a b c : List UInt8) (_K : AM → Prop)
include R a b c _K
theorem zo2 : Obl P 64 (fun v _ => R v) 0 _K [.run 248, .know 7 true, .run 49, .know 7 true, .run 49, .know 7 true, .run 34, .done] ((zc P 64 [.agg [.int .i64 6, .str a, .str b, .str c]] GW)) = (((!a == ([] : List UInt8)) = true) ∧ ((!b == ([] : List UInt8)) = true) ∧ ((!c == ([] : List UInt8)) = true) ∧ (R (.int .i64 2))) := by kernel_rfl
theorem znT : Obl P 64 (fun v _ => R v) 0 _K [.run 248, .know 7 true, .run 49, .know 7 true, .run 49, .know 7 false, .run 133, .know 18 true, .run 26, .done] ((zc P 64 [.agg [.int .i64 6, .str a, .str b, .str c]] GW)) = (((!a == ([] : List UInt8)) = true) ∧ ((!b == ([] : List UInt8)) = true) ∧ ((!c == ([] : List UInt8)) = false) ∧ (decide ((↑a.length : Int) > (64 : Int)) = true) ∧ (R (.int .i64 3))) := by kernel_rfl
theorem zkA : Obl P 64 (fun v _ => R v) 0 _K [.run 248, .know 7 true, .run 49, .know 7 true, .run 49, .know 7 false, .run 133, .know 18 false, .run 47, .know 18 true, .run 26, .done] ((zc P 64 [.agg [.int .i64 6, .str a, .str b, .str c]] GW)) = (((!a == ([] : List UInt8)) = true) ∧ ((!b == ([] : List UInt8)) = true) ∧ ((!c == ([] : List UInt8)) = false) ∧ (decide ((↑a.length : Int) > (64 : Int)) = false) ∧ (decide ((↑b.length : Int) > (200 : Int)) = true) ∧ (R (.int .i64 3))) := by kernel_rfl
theorem ziT : Obl P 64 (fun v _ => R v) 0 _K [.run 248, .know 7 true, .run 49, .know 7 true, .run 49, .know 7 false, .run 133, .know 18 false, .run 47, .know 18 false, .run 47, .know 18 true, .run 26, .done] ((zc P 64 [.agg [.int .i64 6, .str a, .str b, .str c]] GW)) = (((!a == ([] : List UInt8)) = true) ∧ ((!b == ([] : List UInt8)) = true) ∧ ((!c == ([] : List UInt8)) = false) ∧ (decide ((↑a.length : Int) > (64 : Int)) = false) ∧ (decide ((↑b.length : Int) > (200 : Int)) = false) ∧ (decide ((↑c.length : Int) > (0 : Int)) = true) ∧ (R (.int .i64 3))) := by kernel_rfl
theorem zj3 : Obl P 64 (fun v _ => R v) 0 _K [.run 248, .know 7 true, .run 49, .know 7 true, .run 49, .know 7 false, .run 133, .know 18 false, .run 47, .know 18 false, .run 47, .know 18 false, .run 52, .done] ((zc P 64 [.agg [.int .i64 6, .str a, .str b, .str c]] GW)) = (((!a == ([] : List UInt8)) = true) ∧ ((!b == ([] : List UInt8)) = true) ∧ ((!c == ([] : List UInt8)) = false) ∧ (decide ((↑a.length : Int) > (64 : Int)) = false) ∧ (decide ((↑b.length : Int) > (200 : Int)) = false) ∧ (decide ((↑c.length : Int) > (0 : Int)) = false) ∧ (R (.int .i64 0))) := by kernel_rfl
theorem zoF : Obl P 64 (fun v _ => R v) 0 _K [.run 248, .know 7 true, .run 49, .know 7 false, .run 49, .know 7 true, .run 34, .done] ((zc P 64 [.agg [.int .i64 6, .str a, .str b, .str c]] GW)) = (((!a == ([] : List UInt8)) = true) ∧ ((!b == ([] : List UInt8)) = false) ∧ ((!c == ([] : List UInt8)) = true) ∧ (R (.int .i64 2))) := by kernel_rfl
theorem zns : Obl P 64 (fun v _ => R v) 0 _K [.run 248, .know 7 true, .run 49, .know 7 false, .run 49, .know 7 false, .run 133, .know 18 true, .run 26, .done] ((zc P 64 [.agg [.int .i64 6, .str a, .str b, .str c]] GW)) = (((!a == ([] : List UInt8)) = true) ∧ ((!b == ([] : List UInt8)) = false) ∧ ((!c == ([] : List UInt8)) = false) ∧ (decide ((↑a.length : Int) > (64 : Int)) = true) ∧ (R (.int .i64 3))) := by kernel_rfl
theorem zlA : Obl P 64 (fun v _ => R v) 0 _K [.run 248, .know 7 true, .run 49, .know 7 false, .run 49, .know 7 false, .run 133, .know 18 false, .run 47, .know 18 true, .run 26, .done] ((zc P 64 [.agg [.int .i64 6, .str a, .str b, .str c]] GW)) = (((!a == ([] : List UInt8)) = true) ∧ ((!b == ([] : List UInt8)) = false) ∧ ((!c == ([] : List UInt8)) = false) ∧ (decide ((↑a.length : Int) > (64 : Int)) = false) ∧ (decide ((↑b.length : Int) > (200 : Int)) = true) ∧ (R (.int .i64 3))) := by kernel_rfl
theorem zjF : Obl P 64 (fun v _ => R v) 0 _K [.run 248, .know 7 true, .run 49, .know 7 false, .run 49, .know 7 false, .run 133, .know 18 false, .run 47, .know 18 false, .run 47, .know 18 true, .run 26, .done] ((zc P 64 [.agg [.int .i64 6, .str a, .str b, .str c]] GW)) = (((!a == ([] : List UInt8)) = true) ∧ ((!b == ([] : List UInt8)) = false) ∧ ((!c == ([] : List UInt8)) = false) ∧ (decide ((↑a.length : Int) > (64 : Int)) = false) ∧ (decide ((↑b.length : Int) > (200 : Int)) = false) ∧ (decide ((↑c.length : Int) > (0 : Int)) = true) ∧ (R (.int .i64 3))) := by kernel_rfl
theorem zjk : Obl P 64 (fun v _ => R v) 0 _K [.run 248, .know 7 true, .run 49, .know 7 false, .run 49, .know 7 false, .run 133, .know 18 false, .run 47, .know 18 false, .run 47, .know 18 false, .run 52, .done] ((zc P 64 [.agg [.int .i64 6, .str a, .str b, .str c]] GW)) = (((!a == ([] : List UInt8)) = true) ∧ ((!b == ([] : List UInt8)) = false) ∧ ((!c == ([] : List UInt8)) = false) ∧ (decide ((↑a.length : Int) > (64 : Int)) = false) ∧ (decide ((↑b.length : Int) > (200 : Int)) = false) ∧ (decide ((↑c.length : Int) > (0 : Int)) = false) ∧ (R (.int .i64 0))) := by kernel_rfl
theorem zog : Obl P 64 (fun v _ => R v) 0 _K [.run 248, .know 7 false, .run 49, .know 7 true, .run 49, .know 7 true, .run 34, .done] ((zc P 64 [.agg [.int .i64 6, .str a, .str b, .str c]] GW)) = (((!a == ([] : List UInt8)) = false) ∧ ((!b == ([] : List UInt8)) = true) ∧ ((!c == ([] : List UInt8)) = true) ∧ (R (.int .i64 2))) := by kernel_rfl
theorem znR : Obl P 64 (fun v _ => R v) 0 _K [.run 248, .know 7 false, .run 49, .know 7 true, .run 49, .know 7 false, .run 133, .know 18 true, .run 26, .done] ((zc P 64 [.agg [.int .i64 6, .str a, .str b, .str c]] GW)) = (((!a == ([] : List UInt8)) = false) ∧ ((!b == ([] : List UInt8)) = true) ∧ ((!c == ([] : List UInt8)) = false) ∧ (decide ((↑a.length : Int) > (64 : Int)) = true) ∧ (R (.int .i64 3))) := by kernel_rfl
theorem zkx : Obl P 64 (fun v _ => R v) 0 _K [.run 248, .know 7 false, .run 49, .know 7 true, .run 49, .know 7 false, .run 133, .know 18 false, .run 47, .know 18 true, .run 26, .done] ((zc P 64 [.agg [.int .i64 6, .str a, .str b, .str c]] GW)) = (((!a == ([] : List UInt8)) = false) ∧ ((!b == ([] : List UInt8)) = true) ∧ ((!c == ([] : List UInt8)) = false) ∧ (decide ((↑a.length : Int) > (64 : Int)) = false) ∧ (decide ((↑b.length : Int) > (200 : Int)) = true) ∧ (R (.int .i64 3))) := by kernel_rfl
theorem zj2 : Obl P 64 (fun v _ => R v) 0 _K [.run 248, .know 7 false, .run 49, .know 7 true, .run 49, .know 7 false, .run 133, .know 18 false, .run 47, .know 18 false, .run 47, .know 18 true, .run 26, .done] ((zc P 64 [.agg [.int .i64 6, .str a, .str b, .str c]] GW)) = (((!a == ([] : List UInt8)) = false) ∧ ((!b == ([] : List UInt8)) = true) ∧ ((!c == ([] : List UInt8)) = false) ∧ (decide ((↑a.length : Int) > (64 : Int)) = false) ∧ (decide ((↑b.length : Int) > (200 : Int)) = false) ∧ (decide ((↑c.length : Int) > (0 : Int)) = true) ∧ (R (.int .i64 3))) := by kernel_rfl
theorem zhe : Obl P 64 (fun v _ => R v) 0 _K [.run 248, .know 7 false, .run 49, .know 7 true, .run 49, .know 7 false, .run 133, .know 18 false, .run 47, .know 18 false, .run 47, .know 18 false, .run 52, .done] ((zc P 64 [.agg [.int .i64 6, .str a, .str b, .str c]] GW)) = (((!a == ([] : List UInt8)) = false) ∧ ((!b == ([] : List UInt8)) = true) ∧ ((!c == ([] : List UInt8)) = false) ∧ (decide ((↑a.length : Int) > (64 : Int)) = false) ∧ (decide ((↑b.length : Int) > (200 : Int)) = false) ∧ (decide ((↑c.length : Int) > (0 : Int)) = false) ∧ (R (.int .i64 0))) := by kernel_rfl
theorem zoT : Obl P 64 (fun v _ => R v) 0 _K [.run 248, .know 7 false, .run 49, .know 7 false, .run 49, .know 7 true, .run 34, .done] ((zc P 64 [.agg [.int .i64 6, .str a, .str b, .str c]] GW)) = (((!a == ([] : List UInt8)) = false) ∧ ((!b == ([] : List UInt8)) = false) ∧ ((!c == ([] : List UInt8)) = true) ∧ (R (.int .i64 2))) := by kernel_rfl
theorem zmZ : Obl P 64 (fun v _ => R v) 0 _K [.run 248, .know 7 false, .run 49, .know 7 false, .run 49, .know 7 false, .run 133, .know 18 true, .run 26, .done] ((zc P 64 [.agg [.int .i64 6, .str a, .str b, .str c]] GW)) = (((!a == ([] : List UInt8)) = false) ∧ ((!b == ([] : List UInt8)) = false) ∧ ((!c == ([] : List UInt8)) = false) ∧ (decide ((↑a.length : Int) > (64 : Int)) = true) ∧ (R (.int .i64 3))) := by kernel_rfl
theorem zkG : Obl P 64 (fun v _ => R v) 0 _K [.run 248, .know 7 false, .run 49, .know 7 false, .run 49, .know 7 false, .run 133, .know 18 false, .run 47, .know 18 true, .run 26, .done] ((zc P 64 [.agg [.int .i64 6, .str a, .str b, .str c]] GW)) = (((!a == ([] : List UInt8)) = false) ∧ ((!b == ([] : List UInt8)) = false) ∧ ((!c == ([] : List UInt8)) = false) ∧ (decide ((↑a.length : Int) > (64 : Int)) = false) ∧ (decide ((↑b.length : Int) > (200 : Int)) = true) ∧ (R (.int .i64 3))) := by kernel_rfl
theorem zgX : Obl P 64 (fun v _ => R v) 0 _K [.run 248, .know 7 false, .run 49, .know 7 false, .run 49, .know 7 false, .run 133, .know 18 false, .run 47, .know 18 false, .run 47, .know 18 true, .run 26, .done] ((zc P 64 [.agg [.int .i64 6, .str a, .str b, .str c]] GW)) = (((!a == ([] : List UInt8)) = false) ∧ ((!b == ([] : List UInt8)) = false) ∧ ((!c == ([] : List UInt8)) = false) ∧ (decide ((↑a.length : Int) > (64 : Int)) = false) ∧ (decide ((↑b.length : Int) > (200 : Int)) = false) ∧ (decide ((↑c.length : Int) > (0 : Int)) = true) ∧ (R (.int .i64 3))) := by kernel_rfl
theorem ziC : Obl P 64 (fun v _ => R v) 0 _K [.run 248, .know 7 false, .run 49, .know 7 false, .run 49, .know 7 false, .run 133, .know 18 false, .run 47, .know 18 false, .run 47, .know 18 false, .run 52, .done] ((zc P 64 [.agg [.int .i64 6, .str a, .str b, .str c]] GW)) = (((!a == ([] : List UInt8)) = false) ∧ ((!b == ([] : List UInt8)) = false) ∧ ((!c == ([] : List UInt8)) = false) ∧ (decide ((↑a.length : Int) > (64 : Int)) = false) ∧ (decide ((↑b.length : Int) > (200 : Int)) = false) ∧ (decide ((↑c.length : Int) > (0 : Int)) = false) ∧ (R (.int .i64 0))) := by kernel_rfl
end
theorem zoi (a b c : List UInt8) : Goal P 0 64 (fun v _ => v = .int .i64 (zd2 64 200 0 a b c)) (zc P 64 [.agg [.int .i64 6, .str a, .str b, .str c]] GW) := by
 cases h0 : ((!a == ([] : List UInt8))) with
 | true =>
  cases h1 : ((!b == ([] : List UInt8))) with
  | true =>
   cases h2 : ((!c == ([] : List UInt8))) with
   | true =>
    have g0 := neT h0; have g1 := neT h1; have g2 := neT h2; exact Obl.goal (K := fun _ => False) mix (fun _ h => h.elim) (cast (zo2 _ a b c _).symm ⟨h0, h1, h2, congrArg (AV.int .i64) (zaP (by omega)).symm⟩)
   | false =>
    cases h3 : (decide ((↑a.length : Int) > (64 : Int))) with
    | true =>
     have g0 := neT h0; have g1 := neT h1; have g2 := neF h2; have g3 := of_decide_eq_true h3; exact Obl.goal (K := fun _ => False) mix (fun _ h => h.elim) (cast (znT _ a b c _).symm ⟨h0, h1, h2, h3, congrArg (AV.int .i64) (zA (by omega) (by omega)).symm⟩)
    | false =>
     cases h4 : (decide ((↑b.length : Int) > (200 : Int))) with
     | true =>
      have g0 := neT h0; have g1 := neT h1; have g2 := neF h2; have g3 := of_decide_eq_false h3; have g4 := of_decide_eq_true h4; exact Obl.goal (K := fun _ => False) mix (fun _ h => h.elim) (cast (zkA _ a b c _).symm ⟨h0, h1, h2, h3, h4, congrArg (AV.int .i64) (zA (by omega) (by omega)).symm⟩)
     | false =>
      cases h5 : (decide ((↑c.length : Int) > (0 : Int))) with
      | true =>
       have g0 := neT h0; have g1 := neT h1; have g2 := neF h2; have g3 := of_decide_eq_false h3; have g4 := of_decide_eq_false h4; have g5 := of_decide_eq_true h5; exact Obl.goal (K := fun _ => False) mix (fun _ h => h.elim) (cast (ziT _ a b c _).symm ⟨h0, h1, h2, h3, h4, h5, congrArg (AV.int .i64) (zA (by omega) (by omega)).symm⟩)
      | false =>
       have g0 := neT h0; have g1 := neT h1; have g2 := neF h2; have g3 := of_decide_eq_false h3; have g4 := of_decide_eq_false h4; have g5 := of_decide_eq_false h5; exact Obl.goal (K := fun _ => False) mix (fun _ h => h.elim) (cast (zj3 _ a b c _).symm ⟨h0, h1, h2, h3, h4, h5, congrArg (AV.int .i64) (qi (by omega) (by omega)).symm⟩)
  | false =>
   cases h2 : ((!c == ([] : List UInt8))) with
   | true =>
    have g0 := neT h0; have g1 := neF h1; have g2 := neT h2; exact Obl.goal (K := fun _ => False) mix (fun _ h => h.elim) (cast (zoF _ a b c _).symm ⟨h0, h1, h2, congrArg (AV.int .i64) (zaP (by omega)).symm⟩)
   | false =>
    cases h3 : (decide ((↑a.length : Int) > (64 : Int))) with
    | true =>
     have g0 := neT h0; have g1 := neF h1; have g2 := neF h2; have g3 := of_decide_eq_true h3; exact Obl.goal (K := fun _ => False) mix (fun _ h => h.elim) (cast (zns _ a b c _).symm ⟨h0, h1, h2, h3, congrArg (AV.int .i64) (zA (by omega) (by omega)).symm⟩)
    | false =>
     cases h4 : (decide ((↑b.length : Int) > (200 : Int))) with
     | true =>
      have g0 := neT h0; have g1 := neF h1; have g2 := neF h2; have g3 := of_decide_eq_false h3; have g4 := of_decide_eq_true h4; exact Obl.goal (K := fun _ => False) mix (fun _ h => h.elim) (cast (zlA _ a b c _).symm ⟨h0, h1, h2, h3, h4, congrArg (AV.int .i64) (zA (by omega) (by omega)).symm⟩)
     | false =>
      cases h5 : (decide ((↑c.length : Int) > (0 : Int))) with
      | true =>
       have g0 := neT h0; have g1 := neF h1; have g2 := neF h2; have g3 := of_decide_eq_false h3; have g4 := of_decide_eq_false h4; have g5 := of_decide_eq_true h5; exact Obl.goal (K := fun _ => False) mix (fun _ h => h.elim) (cast (zjF _ a b c _).symm ⟨h0, h1, h2, h3, h4, h5, congrArg (AV.int .i64) (zA (by omega) (by omega)).symm⟩)
      | false =>
       have g0 := neT h0; have g1 := neF h1; have g2 := neF h2; have g3 := of_decide_eq_false h3; have g4 := of_decide_eq_false h4; have g5 := of_decide_eq_false h5; exact Obl.goal (K := fun _ => False) mix (fun _ h => h.elim) (cast (zjk _ a b c _).symm ⟨h0, h1, h2, h3, h4, h5, congrArg (AV.int .i64) (qi (by omega) (by omega)).symm⟩)
 | false =>
  cases h1 : ((!b == ([] : List UInt8))) with
  | true =>
   cases h2 : ((!c == ([] : List UInt8))) with
   | true =>
    have g0 := neF h0; have g1 := neT h1; have g2 := neT h2; exact Obl.goal (K := fun _ => False) mix (fun _ h => h.elim) (cast (zog _ a b c _).symm ⟨h0, h1, h2, congrArg (AV.int .i64) (zaP (by omega)).symm⟩)
   | false =>
    cases h3 : (decide ((↑a.length : Int) > (64 : Int))) with
    | true =>
     have g0 := neF h0; have g1 := neT h1; have g2 := neF h2; have g3 := of_decide_eq_true h3; exact Obl.goal (K := fun _ => False) mix (fun _ h => h.elim) (cast (znR _ a b c _).symm ⟨h0, h1, h2, h3, congrArg (AV.int .i64) (zA (by omega) (by omega)).symm⟩)
    | false =>
     cases h4 : (decide ((↑b.length : Int) > (200 : Int))) with
     | true =>
      have g0 := neF h0; have g1 := neT h1; have g2 := neF h2; have g3 := of_decide_eq_false h3; have g4 := of_decide_eq_true h4; exact Obl.goal (K := fun _ => False) mix (fun _ h => h.elim) (cast (zkx _ a b c _).symm ⟨h0, h1, h2, h3, h4, congrArg (AV.int .i64) (zA (by omega) (by omega)).symm⟩)
     | false =>
      cases h5 : (decide ((↑c.length : Int) > (0 : Int))) with
      | true =>
       have g0 := neF h0; have g1 := neT h1; have g2 := neF h2; have g3 := of_decide_eq_false h3; have g4 := of_decide_eq_false h4; have g5 := of_decide_eq_true h5; exact Obl.goal (K := fun _ => False) mix (fun _ h => h.elim) (cast (zj2 _ a b c _).symm ⟨h0, h1, h2, h3, h4, h5, congrArg (AV.int .i64) (zA (by omega) (by omega)).symm⟩)
      | false =>
       have g0 := neF h0; have g1 := neT h1; have g2 := neF h2; have g3 := of_decide_eq_false h3; have g4 := of_decide_eq_false h4; have g5 := of_decide_eq_false h5; exact Obl.goal (K := fun _ => False) mix (fun _ h => h.elim) (cast (zhe _ a b c _).symm ⟨h0, h1, h2, h3, h4, h5, congrArg (AV.int .i64) (qi (by omega) (by omega)).symm⟩)
  | false =>
   cases h2 : ((!c == ([] : List UInt8))) with
   | true =>
    have g0 := neF h0; have g1 := neF h1; have g2 := neT h2; exact Obl.goal (K := fun _ => False) mix (fun _ h => h.elim) (cast (zoT _ a b c _).symm ⟨h0, h1, h2, congrArg (AV.int .i64) (zaP (by omega)).symm⟩)
   | false =>
    cases h3 : (decide ((↑a.length : Int) > (64 : Int))) with
    | true =>
     have g0 := neF h0; have g1 := neF h1; have g2 := neF h2; have g3 := of_decide_eq_true h3; exact Obl.goal (K := fun _ => False) mix (fun _ h => h.elim) (cast (zmZ _ a b c _).symm ⟨h0, h1, h2, h3, congrArg (AV.int .i64) (zA (by omega) (by omega)).symm⟩)
    | false =>
     cases h4 : (decide ((↑b.length : Int) > (200 : Int))) with
     | true =>
      have g0 := neF h0; have g1 := neF h1; have g2 := neF h2; have g3 := of_decide_eq_false h3; have g4 := of_decide_eq_true h4; exact Obl.goal (K := fun _ => False) mix (fun _ h => h.elim) (cast (zkG _ a b c _).symm ⟨h0, h1, h2, h3, h4, congrArg (AV.int .i64) (zA (by omega) (by omega)).symm⟩)
     | false =>
      cases h5 : (decide ((↑c.length : Int) > (0 : Int))) with
      | true =>
       have g0 := neF h0; have g1 := neF h1; have g2 := neF h2; have g3 := of_decide_eq_false h3; have g4 := of_decide_eq_false h4; have g5 := of_decide_eq_true h5; exact Obl.goal (K := fun _ => False) mix (fun _ h => h.elim) (cast (zgX _ a b c _).symm ⟨h0, h1, h2, h3, h4, h5, congrArg (AV.int .i64) (zA (by omega) (by omega)).symm⟩)
      | false =>
       have g0 := neF h0; have g1 := neF h1; have g2 := neF h2; have g3 := of_decide_eq_false h3; have g4 := of_decide_eq_false h4; have g5 := of_decide_eq_false h5; exact Obl.goal (K := fun _ => False) mix (fun _ h => h.elim) (cast (ziC _ a b c _).symm ⟨h0, h1, h2, h3, h4, h5, congrArg (AV.int .i64) (qi (by omega) (by omega)).symm⟩)
section
set_option linter.unusedSectionVars false
variable (R : AV → Prop) (a b c : List UInt8) (_K : AM → Prop)
include R a b c _K
theorem ck7yy : Obl P 64 (fun v _ => R v) 0 _K [.run 248, .know 7 true, .run 49, .know 7 true, .run 34, .done] ((zc P 64 [.agg [.int .i64 7, .str a, .str b, .str c]] GW)) = (((!a == ([] : List UInt8)) = true) ∧ ((!b == ([] : List UInt8)) = true) ∧ (R (.int .i64 2))) := by kernel_rfl
theorem zo8 : Obl P 64 (fun v _ => R v) 0 _K [.run 248, .know 7 true, .run 49, .know 7 false, .run 49, .know 7 true, .run 34, .done] ((zc P 64 [.agg [.int .i64 7, .str a, .str b, .str c]] GW)) = (((!a == ([] : List UInt8)) = true) ∧ ((!b == ([] : List UInt8)) = false) ∧ ((!c == ([] : List UInt8)) = true) ∧ (R (.int .i64 2))) := by kernel_rfl
theorem znG : Obl P 64 (fun v _ => R v) 0 _K [.run 248, .know 7 true, .run 49, .know 7 false, .run 49, .know 7 false, .run 133, .know 18 true, .run 26, .done] ((zc P 64 [.agg [.int .i64 7, .str a, .str b, .str c]] GW)) = (((!a == ([] : List UInt8)) = true) ∧ ((!b == ([] : List UInt8)) = false) ∧ ((!c == ([] : List UInt8)) = false) ∧ (decide ((↑a.length : Int) > (64 : Int)) = true) ∧ (R (.int .i64 3))) := by kernel_rfl
theorem zkL : Obl P 64 (fun v _ => R v) 0 _K [.run 248, .know 7 true, .run 49, .know 7 false, .run 49, .know 7 false, .run 133, .know 18 false, .run 47, .know 18 true, .run 26, .done] ((zc P 64 [.agg [.int .i64 7, .str a, .str b, .str c]] GW)) = (((!a == ([] : List UInt8)) = true) ∧ ((!b == ([] : List UInt8)) = false) ∧ ((!c == ([] : List UInt8)) = false) ∧ (decide ((↑a.length : Int) > (64 : Int)) = false) ∧ (decide ((↑b.length : Int) > (0 : Int)) = true) ∧ (R (.int .i64 3))) := by kernel_rfl
theorem zhZ : Obl P 64 (fun v _ => R v) 0 _K [.run 248, .know 7 true, .run 49, .know 7 false, .run 49, .know 7 false, .run 133, .know 18 false, .run 47, .know 18 false, .run 47, .know 18 true, .run 26, .done] ((zc P 64 [.agg [.int .i64 7, .str a, .str b, .str c]] GW)) = (((!a == ([] : List UInt8)) = true) ∧ ((!b == ([] : List UInt8)) = false) ∧ ((!c == ([] : List UInt8)) = false) ∧ (decide ((↑a.length : Int) > (64 : Int)) = false) ∧ (decide ((↑b.length : Int) > (0 : Int)) = false) ∧ (decide ((↑c.length : Int) > (0 : Int)) = true) ∧ (R (.int .i64 3))) := by kernel_rfl
theorem zhq : Obl P 64 (fun v _ => R v) 0 _K [.run 248, .know 7 true, .run 49, .know 7 false, .run 49, .know 7 false, .run 133, .know 18 false, .run 47, .know 18 false, .run 47, .know 18 false, .run 52, .done] ((zc P 64 [.agg [.int .i64 7, .str a, .str b, .str c]] GW)) = (((!a == ([] : List UInt8)) = true) ∧ ((!b == ([] : List UInt8)) = false) ∧ ((!c == ([] : List UInt8)) = false) ∧ (decide ((↑a.length : Int) > (64 : Int)) = false) ∧ (decide ((↑b.length : Int) > (0 : Int)) = false) ∧ (decide ((↑c.length : Int) > (0 : Int)) = false) ∧ (R (.int .i64 0))) := by kernel_rfl
theorem ck7ny : Obl P 64 (fun v _ => R v) 0 _K [.run 248, .know 7 false, .run 49, .know 7 true, .run 34, .done] ((zc P 64 [.agg [.int .i64 7, .str a, .str b, .str c]] GW)) = (((!a == ([] : List UInt8)) = false) ∧ ((!b == ([] : List UInt8)) = true) ∧ (R (.int .i64 2))) := by kernel_rfl
theorem zoX : Obl P 64 (fun v _ => R v) 0 _K [.run 248, .know 7 false, .run 49, .know 7 false, .run 49, .know 7 true, .run 34, .done] ((zc P 64 [.agg [.int .i64 7, .str a, .str b, .str c]] GW)) = (((!a == ([] : List UInt8)) = false) ∧ ((!b == ([] : List UInt8)) = false) ∧ ((!c == ([] : List UInt8)) = true) ∧ (R (.int .i64 2))) := by kernel_rfl
theorem znA : Obl P 64 (fun v _ => R v) 0 _K [.run 248, .know 7 false, .run 49, .know 7 false, .run 49, .know 7 false, .run 133, .know 18 true, .run 26, .done] ((zc P 64 [.agg [.int .i64 7, .str a, .str b, .str c]] GW)) = (((!a == ([] : List UInt8)) = false) ∧ ((!b == ([] : List UInt8)) = false) ∧ ((!c == ([] : List UInt8)) = false) ∧ (decide ((↑a.length : Int) > (64 : Int)) = true) ∧ (R (.int .i64 3))) := by kernel_rfl
theorem zkV : Obl P 64 (fun v _ => R v) 0 _K [.run 248, .know 7 false, .run 49, .know 7 false, .run 49, .know 7 false, .run 133, .know 18 false, .run 47, .know 18 true, .run 26, .done] ((zc P 64 [.agg [.int .i64 7, .str a, .str b, .str c]] GW)) = (((!a == ([] : List UInt8)) = false) ∧ ((!b == ([] : List UInt8)) = false) ∧ ((!c == ([] : List UInt8)) = false) ∧ (decide ((↑a.length : Int) > (64 : Int)) = false) ∧ (decide ((↑b.length : Int) > (0 : Int)) = true) ∧ (R (.int .i64 3))) := by kernel_rfl
theorem zjL : Obl P 64 (fun v _ => R v) 0 _K [.run 248, .know 7 false, .run 49, .know 7 false, .run 49, .know 7 false, .run 133, .know 18 false, .run 47, .know 18 false, .run 47, .know 18 true, .run 26, .done] ((zc P 64 [.agg [.int .i64 7, .str a, .str b, .str c]] GW)) = (((!a == ([] : List UInt8)) = false) ∧ ((!b == ([] : List UInt8)) = false) ∧ ((!c == ([] : List UInt8)) = false) ∧ (decide ((↑a.length : Int) > (64 : Int)) = false) ∧ (decide ((↑b.length : Int) > (0 : Int)) = false) ∧ (decide ((↑c.length : Int) > (0 : Int)) = true) ∧ (R (.int .i64 3))) := by kernel_rfl
theorem zil : Obl P 64 (fun v _ => R v) 0 _K [.run 248, .know 7 false, .run 49, .know 7 false, .run 49, .know 7 false, .run 133, .know 18 false, .run 47, .know 18 false, .run 47, .know 18 false, .run 52, .done] ((zc P 64 [.agg [.int .i64 7, .str a, .str b, .str c]] GW)) = (((!a == ([] : List UInt8)) = false) ∧ ((!b == ([] : List UInt8)) = false) ∧ ((!c == ([] : List UInt8)) = false) ∧ (decide ((↑a.length : Int) > (64 : Int)) = false) ∧ (decide ((↑b.length : Int) > (0 : Int)) = false) ∧ (decide ((↑c.length : Int) > (0 : Int)) = false) ∧ (R (.int .i64 0))) := by kernel_rfl
end
theorem zoZ (a b c : List UInt8) : Goal P 0 64 (fun v _ => v = .int .i64 (zd2 64 0 0 a b c)) (zc P 64 [.agg [.int .i64 7, .str a, .str b, .str c]] GW) := by
 cases h0 : ((!a == ([] : List UInt8))) with
 | true =>
  cases h1 : ((!b == ([] : List UInt8))) with
  | true =>
   have g0 := neT h0; have g1 := neT h1; exact Obl.goal (K := fun _ => False) mix (fun _ h => h.elim) (cast (ck7yy _ a b c _).symm ⟨h0, h1, congrArg (AV.int .i64) (zaP (by omega)).symm⟩)
  | false =>
   cases h2 : ((!c == ([] : List UInt8))) with
   | true =>
    have g0 := neT h0; have g1 := neF h1; have g2 := neT h2; exact Obl.goal (K := fun _ => False) mix (fun _ h => h.elim) (cast (zo8 _ a b c _).symm ⟨h0, h1, h2, congrArg (AV.int .i64) (zaP (by omega)).symm⟩)
   | false =>
    cases h3 : (decide ((↑a.length : Int) > (64 : Int))) with
    | true =>
     have g0 := neT h0; have g1 := neF h1; have g2 := neF h2; have g3 := of_decide_eq_true h3; exact Obl.goal (K := fun _ => False) mix (fun _ h => h.elim) (cast (znG _ a b c _).symm ⟨h0, h1, h2, h3, congrArg (AV.int .i64) (zA (by omega) (by omega)).symm⟩)
    | false =>
     cases h4 : (decide ((↑b.length : Int) > (0 : Int))) with
     | true =>
      have g0 := neT h0; have g1 := neF h1; have g2 := neF h2; have g3 := of_decide_eq_false h3; have g4 := of_decide_eq_true h4; exact Obl.goal (K := fun _ => False) mix (fun _ h => h.elim) (cast (zkL _ a b c _).symm ⟨h0, h1, h2, h3, h4, congrArg (AV.int .i64) (zA (by omega) (by omega)).symm⟩)
     | false =>
      cases h5 : (decide ((↑c.length : Int) > (0 : Int))) with
      | true =>
       have g0 := neT h0; have g1 := neF h1; have g2 := neF h2; have g3 := of_decide_eq_false h3; have g4 := of_decide_eq_false h4; have g5 := of_decide_eq_true h5; exact Obl.goal (K := fun _ => False) mix (fun _ h => h.elim) (cast (zhZ _ a b c _).symm ⟨h0, h1, h2, h3, h4, h5, congrArg (AV.int .i64) (zA (by omega) (by omega)).symm⟩)
      | false =>
       have g0 := neT h0; have g1 := neF h1; have g2 := neF h2; have g3 := of_decide_eq_false h3; have g4 := of_decide_eq_false h4; have g5 := of_decide_eq_false h5; exact Obl.goal (K := fun _ => False) mix (fun _ h => h.elim) (cast (zhq _ a b c _).symm ⟨h0, h1, h2, h3, h4, h5, congrArg (AV.int .i64) (qi (by omega) (by omega)).symm⟩)
 | false =>
  cases h1 : ((!b == ([] : List UInt8))) with
  | true =>
   have g0 := neF h0; have g1 := neT h1; exact Obl.goal (K := fun _ => False) mix (fun _ h => h.elim) (cast (ck7ny _ a b c _).symm ⟨h0, h1, congrArg (AV.int .i64) (zaP (by omega)).symm⟩)
  | false =>
   cases h2 : ((!c == ([] : List UInt8))) with
   | true =>
    have g0 := neF h0; have g1 := neF h1; have g2 := neT h2; exact Obl.goal (K := fun _ => False) mix (fun _ h => h.elim) (cast (zoX _ a b c _).symm ⟨h0, h1, h2, congrArg (AV.int .i64) (zaP (by omega)).symm⟩)
   | false =>
    cases h3 : (decide ((↑a.length : Int) > (64 : Int))) with
    | true =>
     have g0 := neF h0; have g1 := neF h1; have g2 := neF h2; have g3 := of_decide_eq_true h3; exact Obl.goal (K := fun _ => False) mix (fun _ h => h.elim) (cast (znA _ a b c _).symm ⟨h0, h1, h2, h3, congrArg (AV.int .i64) (zA (by omega) (by omega)).symm⟩)
    | false =>
     cases h4 : (decide ((↑b.length : Int) > (0 : Int))) with
     | true =>
      have g0 := neF h0; have g1 := neF h1; have g2 := neF h2; have g3 := of_decide_eq_false h3; have g4 := of_decide_eq_true h4; exact Obl.goal (K := fun _ => False) mix (fun _ h => h.elim) (cast (zkV _ a b c _).symm ⟨h0, h1, h2, h3, h4, congrArg (AV.int .i64) (zA (by omega) (by omega)).symm⟩)
     | false =>
      cases h5 : (decide ((↑c.length : Int) > (0 : Int))) with
      | true =>
       have g0 := neF h0; have g1 := neF h1; have g2 := neF h2; have g3 := of_decide_eq_false h3; have g4 := of_decide_eq_false h4; have g5 := of_decide_eq_true h5; exact Obl.goal (K := fun _ => False) mix (fun _ h => h.elim) (cast (zjL _ a b c _).symm ⟨h0, h1, h2, h3, h4, h5, congrArg (AV.int .i64) (zA (by omega) (by omega)).symm⟩)
      | false =>
       have g0 := neF h0; have g1 := neF h1; have g2 := neF h2; have g3 := of_decide_eq_false h3; have g4 := of_decide_eq_false h4; have g5 := of_decide_eq_false h5; exact Obl.goal (K := fun _ => False) mix (fun _ h => h.elim) (cast (zil _ a b c _).symm ⟨h0, h1, h2, h3, h4, h5, congrArg (AV.int .i64) (qi (by omega) (by omega)).symm⟩)
section
set_option linter.unusedSectionVars false
variable (R : AV → Prop) (a b c : List UInt8) (_K : AM → Prop)
include R a b c _K
theorem ck8yy : Obl P 64 (fun v _ => R v) 0 _K [.run 248, .know 7 true, .run 49, .know 7 true, .run 34, .done] ((zc P 64 [.agg [.int .i64 8, .str a, .str b, .str c]] GW)) = (((!a == ([] : List UInt8)) = true) ∧ ((!b == ([] : List UInt8)) = true) ∧ (R (.int .i64 2))) := by kernel_rfl
theorem zok : Obl P 64 (fun v _ => R v) 0 _K [.run 248, .know 7 true, .run 49, .know 7 false, .run 49, .know 7 true, .run 34, .done] ((zc P 64 [.agg [.int .i64 8, .str a, .str b, .str c]] GW)) = (((!a == ([] : List UInt8)) = true) ∧ ((!b == ([] : List UInt8)) = false) ∧ ((!c == ([] : List UInt8)) = true) ∧ (R (.int .i64 2))) := by kernel_rfl
theorem zmt : Obl P 64 (fun v _ => R v) 0 _K [.run 248, .know 7 true, .run 49, .know 7 false, .run 49, .know 7 false, .run 133, .know 18 true, .run 26, .done] ((zc P 64 [.agg [.int .i64 8, .str a, .str b, .str c]] GW)) = (((!a == ([] : List UInt8)) = true) ∧ ((!b == ([] : List UInt8)) = false) ∧ ((!c == ([] : List UInt8)) = false) ∧ (decide ((↑a.length : Int) > (64 : Int)) = true) ∧ (R (.int .i64 3))) := by kernel_rfl
theorem zlL : Obl P 64 (fun v _ => R v) 0 _K [.run 248, .know 7 true, .run 49, .know 7 false, .run 49, .know 7 false, .run 133, .know 18 false, .run 47, .know 18 true, .run 26, .done] ((zc P 64 [.agg [.int .i64 8, .str a, .str b, .str c]] GW)) = (((!a == ([] : List UInt8)) = true) ∧ ((!b == ([] : List UInt8)) = false) ∧ ((!c == ([] : List UInt8)) = false) ∧ (decide ((↑a.length : Int) > (64 : Int)) = false) ∧ (decide ((↑b.length : Int) > (0 : Int)) = true) ∧ (R (.int .i64 3))) := by kernel_rfl
theorem zgS : Obl P 64 (fun v _ => R v) 0 _K [.run 248, .know 7 true, .run 49, .know 7 false, .run 49, .know 7 false, .run 133, .know 18 false, .run 47, .know 18 false, .run 47, .know 18 true, .run 26, .done] ((zc P 64 [.agg [.int .i64 8, .str a, .str b, .str c]] GW)) = (((!a == ([] : List UInt8)) = true) ∧ ((!b == ([] : List UInt8)) = false) ∧ ((!c == ([] : List UInt8)) = false) ∧ (decide ((↑a.length : Int) > (64 : Int)) = false) ∧ (decide ((↑b.length : Int) > (0 : Int)) = false) ∧ (decide ((↑c.length : Int) > (0 : Int)) = true) ∧ (R (.int .i64 3))) := by kernel_rfl
theorem zjR : Obl P 64 (fun v _ => R v) 0 _K [.run 248, .know 7 true, .run 49, .know 7 false, .run 49, .know 7 false, .run 133, .know 18 false, .run 47, .know 18 false, .run 47, .know 18 false, .run 52, .done] ((zc P 64 [.agg [.int .i64 8, .str a, .str b, .str c]] GW)) = (((!a == ([] : List UInt8)) = true) ∧ ((!b == ([] : List UInt8)) = false) ∧ ((!c == ([] : List UInt8)) = false) ∧ (decide ((↑a.length : Int) > (64 : Int)) = false) ∧ (decide ((↑b.length : Int) > (0 : Int)) = false) ∧ (decide ((↑c.length : Int) > (0 : Int)) = false) ∧ (R (.int .i64 0))) := by kernel_rfl
theorem ck8ny : Obl P 64 (fun v _ => R v) 0 _K [.run 248, .know 7 false, .run 49, .know 7 true, .run 34, .done] ((zc P 64 [.agg [.int .i64 8, .str a, .str b, .str c]] GW)) = (((!a == ([] : List UInt8)) = false) ∧ ((!b == ([] : List UInt8)) = true) ∧ (R (.int .i64 2))) := by kernel_rfl
theorem zoq : Obl P 64 (fun v _ => R v) 0 _K [.run 248, .know 7 false, .run 49, .know 7 false, .run 49, .know 7 true, .run 34, .done] ((zc P 64 [.agg [.int .i64 8, .str a, .str b, .str c]] GW)) = (((!a == ([] : List UInt8)) = false) ∧ ((!b == ([] : List UInt8)) = false) ∧ ((!c == ([] : List UInt8)) = true) ∧ (R (.int .i64 2))) := by kernel_rfl
theorem zne : Obl P 64 (fun v _ => R v) 0 _K [.run 248, .know 7 false, .run 49, .know 7 false, .run 49, .know 7 false, .run 133, .know 18 true, .run 26, .done] ((zc P 64 [.agg [.int .i64 8, .str a, .str b, .str c]] GW)) = (((!a == ([] : List UInt8)) = false) ∧ ((!b == ([] : List UInt8)) = false) ∧ ((!c == ([] : List UInt8)) = false) ∧ (decide ((↑a.length : Int) > (64 : Int)) = true) ∧ (R (.int .i64 3))) := by kernel_rfl
theorem zla : Obl P 64 (fun v _ => R v) 0 _K [.run 248, .know 7 false, .run 49, .know 7 false, .run 49, .know 7 false, .run 133, .know 18 false, .run 47, .know 18 true, .run 26, .done] ((zc P 64 [.agg [.int .i64 8, .str a, .str b, .str c]] GW)) = (((!a == ([] : List UInt8)) = false) ∧ ((!b == ([] : List UInt8)) = false) ∧ ((!c == ([] : List UInt8)) = false) ∧ (decide ((↑a.length : Int) > (64 : Int)) = false) ∧ (decide ((↑b.length : Int) > (0 : Int)) = true) ∧ (R (.int .i64 3))) := by kernel_rfl
theorem zgV : Obl P 64 (fun v _ => R v) 0 _K [.run 248, .know 7 false, .run 49, .know 7 false, .run 49, .know 7 false, .run 133, .know 18 false, .run 47, .know 18 false, .run 47, .know 18 true, .run 26, .done] ((zc P 64 [.agg [.int .i64 8, .str a, .str b, .str c]] GW)) = (((!a == ([] : List UInt8)) = false) ∧ ((!b == ([] : List UInt8)) = false) ∧ ((!c == ([] : List UInt8)) = false) ∧ (decide ((↑a.length : Int) > (64 : Int)) = false) ∧ (decide ((↑b.length : Int) > (0 : Int)) = false) ∧ (decide ((↑c.length : Int) > (0 : Int)) = true) ∧ (R (.int .i64 3))) := by kernel_rfl
theorem zjf : Obl P 64 (fun v _ => R v) 0 _K [.run 248, .know 7 false, .run 49, .know 7 false, .run 49, .know 7 false, .run 133, .know 18 false, .run 47, .know 18 false, .run 47, .know 18 false, .run 52, .done] ((zc P 64 [.agg [.int .i64 8, .str a, .str b, .str c]] GW)) = (((!a == ([] : List UInt8)) = false) ∧ ((!b == ([] : List UInt8)) = false) ∧ ((!c == ([] : List UInt8)) = false) ∧ (decide ((↑a.length : Int) > (64 : Int)) = false) ∧ (decide ((↑b.length : Int) > (0 : Int)) = false) ∧ (decide ((↑c.length : Int) > (0 : Int)) = false) ∧ (R (.int .i64 0))) := by kernel_rfl
end
theorem zoH (a b c : List UInt8) : Goal P 0 64 (fun v _ => v = .int .i64 (zd2 64 0 0 a b c)) (zc P 64 [.agg [.int .i64 8, .str a, .str b, .str c]] GW) := by
 cases h0 : ((!a == ([] : List UInt8))) with
 | true =>
  cases h1 : ((!b == ([] : List UInt8))) with
  | true =>
   have g0 := neT h0; have g1 := neT h1; exact Obl.goal (K := fun _ => False) mix (fun _ h => h.elim) (cast (ck8yy _ a b c _).symm ⟨h0, h1, congrArg (AV.int .i64) (zaP (by omega)).symm⟩)
  | false =>
   cases h2 : ((!c == ([] : List UInt8))) with
   | true =>
    have g0 := neT h0; have g1 := neF h1; have g2 := neT h2; exact Obl.goal (K := fun _ => False) mix (fun _ h => h.elim) (cast (zok _ a b c _).symm ⟨h0, h1, h2, congrArg (AV.int .i64) (zaP (by omega)).symm⟩)
   | false =>
    cases h3 : (decide ((↑a.length : Int) > (64 : Int))) with
    | true =>
     have g0 := neT h0; have g1 := neF h1; have g2 := neF h2; have g3 := of_decide_eq_true h3; exact Obl.goal (K := fun _ => False) mix (fun _ h => h.elim) (cast (zmt _ a b c _).symm ⟨h0, h1, h2, h3, congrArg (AV.int .i64) (zA (by omega) (by omega)).symm⟩)
    | false =>
     cases h4 : (decide ((↑b.length : Int) > (0 : Int))) with
     | true =>
      have g0 := neT h0; have g1 := neF h1; have g2 := neF h2; have g3 := of_decide_eq_false h3; have g4 := of_decide_eq_true h4; exact Obl.goal (K := fun _ => False) mix (fun _ h => h.elim) (cast (zlL _ a b c _).symm ⟨h0, h1, h2, h3, h4, congrArg (AV.int .i64) (zA (by omega) (by omega)).symm⟩)
     | false =>
      cases h5 : (decide ((↑c.length : Int) > (0 : Int))) with
      | true =>
       have g0 := neT h0; have g1 := neF h1; have g2 := neF h2; have g3 := of_decide_eq_false h3; have g4 := of_decide_eq_false h4; have g5 := of_decide_eq_true h5; exact Obl.goal (K := fun _ => False) mix (fun _ h => h.elim) (cast (zgS _ a b c _).symm ⟨h0, h1, h2, h3, h4, h5, congrArg (AV.int .i64) (zA (by omega) (by omega)).symm⟩)
      | false =>
       have g0 := neT h0; have g1 := neF h1; have g2 := neF h2; have g3 := of_decide_eq_false h3; have g4 := of_decide_eq_false h4; have g5 := of_decide_eq_false h5; exact Obl.goal (K := fun _ => False) mix (fun _ h => h.elim) (cast (zjR _ a b c _).symm ⟨h0, h1, h2, h3, h4, h5, congrArg (AV.int .i64) (qi (by omega) (by omega)).symm⟩)
 | false =>
  cases h1 : ((!b == ([] : List UInt8))) with
  | true =>
   have g0 := neF h0; have g1 := neT h1; exact Obl.goal (K := fun _ => False) mix (fun _ h => h.elim) (cast (ck8ny _ a b c _).symm ⟨h0, h1, congrArg (AV.int .i64) (zaP (by omega)).symm⟩)
  | false =>
   cases h2 : ((!c == ([] : List UInt8))) with
   | true =>
    have g0 := neF h0; have g1 := neF h1; have g2 := neT h2; exact Obl.goal (K := fun _ => False) mix (fun _ h => h.elim) (cast (zoq _ a b c _).symm ⟨h0, h1, h2, congrArg (AV.int .i64) (zaP (by omega)).symm⟩)
   | false =>
    cases h3 : (decide ((↑a.length : Int) > (64 : Int))) with
    | true =>
     have g0 := neF h0; have g1 := neF h1; have g2 := neF h2; have g3 := of_decide_eq_true h3; exact Obl.goal (K := fun _ => False) mix (fun _ h => h.elim) (cast (zne _ a b c _).symm ⟨h0, h1, h2, h3, congrArg (AV.int .i64) (zA (by omega) (by omega)).symm⟩)
    | false =>
     cases h4 : (decide ((↑b.length : Int) > (0 : Int))) with
     | true =>
      have g0 := neF h0; have g1 := neF h1; have g2 := neF h2; have g3 := of_decide_eq_false h3; have g4 := of_decide_eq_true h4; exact Obl.goal (K := fun _ => False) mix (fun _ h => h.elim) (cast (zla _ a b c _).symm ⟨h0, h1, h2, h3, h4, congrArg (AV.int .i64) (zA (by omega) (by omega)).symm⟩)
     | false =>
      cases h5 : (decide ((↑c.length : Int) > (0 : Int))) with
      | true =>
       have g0 := neF h0; have g1 := neF h1; have g2 := neF h2; have g3 := of_decide_eq_false h3; have g4 := of_decide_eq_false h4; have g5 := of_decide_eq_true h5; exact Obl.goal (K := fun _ => False) mix (fun _ h => h.elim) (cast (zgV _ a b c _).symm ⟨h0, h1, h2, h3, h4, h5, congrArg (AV.int .i64) (zA (by omega) (by omega)).symm⟩)
      | false =>
       have g0 := neF h0; have g1 := neF h1; have g2 := neF h2; have g3 := of_decide_eq_false h3; have g4 := of_decide_eq_false h4; have g5 := of_decide_eq_false h5; exact Obl.goal (K := fun _ => False) mix (fun _ h => h.elim) (cast (zjf _ a b c _).symm ⟨h0, h1, h2, h3, h4, h5, congrArg (AV.int .i64) (qi (by omega) (by omega)).symm⟩)
section
set_option linter.unusedSectionVars false
variable (R : AV → Prop) (a b c : List UInt8) (_K : AM → Prop)
include R a b c _K
theorem znU : Obl P 64 (fun v _ => R v) 0 _K [.run 248, .know 7 true, .run 49, .know 7 true, .run 49, .know 7 true, .run 133, .know 18 true, .run 26, .done] ((zc P 64 [.agg [.int .i64 9, .str a, .str b, .str c]] GW)) = (((!a == ([] : List UInt8)) = true) ∧ ((!b == ([] : List UInt8)) = true) ∧ ((!c == ([] : List UInt8)) = true) ∧ (decide ((↑a.length : Int) > (64 : Int)) = true) ∧ (R (.int .i64 3))) := by kernel_rfl
theorem zlM : Obl P 64 (fun v _ => R v) 0 _K [.run 248, .know 7 true, .run 49, .know 7 true, .run 49, .know 7 true, .run 133, .know 18 false, .run 47, .know 18 true, .run 26, .done] ((zc P 64 [.agg [.int .i64 9, .str a, .str b, .str c]] GW)) = (((!a == ([] : List UInt8)) = true) ∧ ((!b == ([] : List UInt8)) = true) ∧ ((!c == ([] : List UInt8)) = true) ∧ (decide ((↑a.length : Int) > (64 : Int)) = false) ∧ (decide ((↑b.length : Int) > (200 : Int)) = true) ∧ (R (.int .i64 3))) := by kernel_rfl
theorem zg0 : Obl P 64 (fun v _ => R v) 0 _K [.run 248, .know 7 true, .run 49, .know 7 true, .run 49, .know 7 true, .run 133, .know 18 false, .run 47, .know 18 false, .run 47, .know 18 true, .run 26, .done] ((zc P 64 [.agg [.int .i64 9, .str a, .str b, .str c]] GW)) = (((!a == ([] : List UInt8)) = true) ∧ ((!b == ([] : List UInt8)) = true) ∧ ((!c == ([] : List UInt8)) = true) ∧ (decide ((↑a.length : Int) > (64 : Int)) = false) ∧ (decide ((↑b.length : Int) > (200 : Int)) = false) ∧ (decide ((↑c.length : Int) > (5000 : Int)) = true) ∧ (R (.int .i64 3))) := by kernel_rfl
theorem zh7 : Obl P 64 (fun v _ => R v) 0 _K [.run 248, .know 7 true, .run 49, .know 7 true, .run 49, .know 7 true, .run 133, .know 18 false, .run 47, .know 18 false, .run 47, .know 18 false, .run 52, .done] ((zc P 64 [.agg [.int .i64 9, .str a, .str b, .str c]] GW)) = (((!a == ([] : List UInt8)) = true) ∧ ((!b == ([] : List UInt8)) = true) ∧ ((!c == ([] : List UInt8)) = true) ∧ (decide ((↑a.length : Int) > (64 : Int)) = false) ∧ (decide ((↑b.length : Int) > (200 : Int)) = false) ∧ (decide ((↑c.length : Int) > (5000 : Int)) = false) ∧ (R (.int .i64 0))) := by kernel_rfl
theorem znu : Obl P 64 (fun v _ => R v) 0 _K [.run 248, .know 7 true, .run 49, .know 7 true, .run 49, .know 7 false, .run 133, .know 18 true, .run 26, .done] ((zc P 64 [.agg [.int .i64 9, .str a, .str b, .str c]] GW)) = (((!a == ([] : List UInt8)) = true) ∧ ((!b == ([] : List UInt8)) = true) ∧ ((!c == ([] : List UInt8)) = false) ∧ (decide ((↑a.length : Int) > (64 : Int)) = true) ∧ (R (.int .i64 3))) := by kernel_rfl
theorem zk4 : Obl P 64 (fun v _ => R v) 0 _K [.run 248, .know 7 true, .run 49, .know 7 true, .run 49, .know 7 false, .run 133, .know 18 false, .run 47, .know 18 true, .run 26, .done] ((zc P 64 [.agg [.int .i64 9, .str a, .str b, .str c]] GW)) = (((!a == ([] : List UInt8)) = true) ∧ ((!b == ([] : List UInt8)) = true) ∧ ((!c == ([] : List UInt8)) = false) ∧ (decide ((↑a.length : Int) > (64 : Int)) = false) ∧ (decide ((↑b.length : Int) > (200 : Int)) = true) ∧ (R (.int .i64 3))) := by kernel_rfl
theorem zih : Obl P 64 (fun v _ => R v) 0 _K [.run 248, .know 7 true, .run 49, .know 7 true, .run 49, .know 7 false, .run 133, .know 18 false, .run 47, .know 18 false, .run 47, .know 18 true, .run 26, .done] ((zc P 64 [.agg [.int .i64 9, .str a, .str b, .str c]] GW)) = (((!a == ([] : List UInt8)) = true) ∧ ((!b == ([] : List UInt8)) = true) ∧ ((!c == ([] : List UInt8)) = false) ∧ (decide ((↑a.length : Int) > (64 : Int)) = false) ∧ (decide ((↑b.length : Int) > (200 : Int)) = false) ∧ (decide ((↑c.length : Int) > (5000 : Int)) = true) ∧ (R (.int .i64 3))) := by kernel_rfl
theorem zhp : Obl P 64 (fun v _ => R v) 0 _K [.run 248, .know 7 true, .run 49, .know 7 true, .run 49, .know 7 false, .run 133, .know 18 false, .run 47, .know 18 false, .run 47, .know 18 false, .run 52, .done] ((zc P 64 [.agg [.int .i64 9, .str a, .str b, .str c]] GW)) = (((!a == ([] : List UInt8)) = true) ∧ ((!b == ([] : List UInt8)) = true) ∧ ((!c == ([] : List UInt8)) = false) ∧ (decide ((↑a.length : Int) > (64 : Int)) = false) ∧ (decide ((↑b.length : Int) > (200 : Int)) = false) ∧ (decide ((↑c.length : Int) > (5000 : Int)) = false) ∧ (R (.int .i64 0))) := by kernel_rfl
theorem zm5 : Obl P 64 (fun v _ => R v) 0 _K [.run 248, .know 7 true, .run 49, .know 7 false, .run 49, .know 7 true, .run 133, .know 18 true, .run 26, .done] ((zc P 64 [.agg [.int .i64 9, .str a, .str b, .str c]] GW)) = (((!a == ([] : List UInt8)) = true) ∧ ((!b == ([] : List UInt8)) = false) ∧ ((!c == ([] : List UInt8)) = true) ∧ (decide ((↑a.length : Int) > (64 : Int)) = true) ∧ (R (.int .i64 3))) := by kernel_rfl
theorem zkW : Obl P 64 (fun v _ => R v) 0 _K [.run 248, .know 7 true, .run 49, .know 7 false, .run 49, .know 7 true, .run 133, .know 18 false, .run 47, .know 18 true, .run 26, .done] ((zc P 64 [.agg [.int .i64 9, .str a, .str b, .str c]] GW)) = (((!a == ([] : List UInt8)) = true) ∧ ((!b == ([] : List UInt8)) = false) ∧ ((!c == ([] : List UInt8)) = true) ∧ (decide ((↑a.length : Int) > (64 : Int)) = false) ∧ (decide ((↑b.length : Int) > (200 : Int)) = true) ∧ (R (.int .i64 3))) := by kernel_rfl
theorem zi6 : Obl P 64 (fun v _ => R v) 0 _K [.run 248, .know 7 true, .run 49, .know 7 false, .run 49, .know 7 true, .run 133, .know 18 false, .run 47, .know 18 false, .run 47, .know 18 true, .run 26, .done] ((zc P 64 [.agg [.int .i64 9, .str a, .str b, .str c]] GW)) = (((!a == ([] : List UInt8)) = true) ∧ ((!b == ([] : List UInt8)) = false) ∧ ((!c == ([] : List UInt8)) = true) ∧ (decide ((↑a.length : Int) > (64 : Int)) = false) ∧ (decide ((↑b.length : Int) > (200 : Int)) = false) ∧ (decide ((↑c.length : Int) > (5000 : Int)) = true) ∧ (R (.int .i64 3))) := by kernel_rfl
theorem zhS : Obl P 64 (fun v _ => R v) 0 _K [.run 248, .know 7 true, .run 49, .know 7 false, .run 49, .know 7 true, .run 133, .know 18 false, .run 47, .know 18 false, .run 47, .know 18 false, .run 52, .done] ((zc P 64 [.agg [.int .i64 9, .str a, .str b, .str c]] GW)) = (((!a == ([] : List UInt8)) = true) ∧ ((!b == ([] : List UInt8)) = false) ∧ ((!c == ([] : List UInt8)) = true) ∧ (decide ((↑a.length : Int) > (64 : Int)) = false) ∧ (decide ((↑b.length : Int) > (200 : Int)) = false) ∧ (decide ((↑c.length : Int) > (5000 : Int)) = false) ∧ (R (.int .i64 0))) := by kernel_rfl
theorem znl : Obl P 64 (fun v _ => R v) 0 _K [.run 248, .know 7 true, .run 49, .know 7 false, .run 49, .know 7 false, .run 133, .know 18 true, .run 26, .done] ((zc P 64 [.agg [.int .i64 9, .str a, .str b, .str c]] GW)) = (((!a == ([] : List UInt8)) = true) ∧ ((!b == ([] : List UInt8)) = false) ∧ ((!c == ([] : List UInt8)) = false) ∧ (decide ((↑a.length : Int) > (64 : Int)) = true) ∧ (R (.int .i64 3))) := by kernel_rfl
theorem zk9 : Obl P 64 (fun v _ => R v) 0 _K [.run 248, .know 7 true, .run 49, .know 7 false, .run 49, .know 7 false, .run 133, .know 18 false, .run 47, .know 18 true, .run 26, .done] ((zc P 64 [.agg [.int .i64 9, .str a, .str b, .str c]] GW)) = (((!a == ([] : List UInt8)) = true) ∧ ((!b == ([] : List UInt8)) = false) ∧ ((!c == ([] : List UInt8)) = false) ∧ (decide ((↑a.length : Int) > (64 : Int)) = false) ∧ (decide ((↑b.length : Int) > (200 : Int)) = true) ∧ (R (.int .i64 3))) := by kernel_rfl
theorem zh2 : Obl P 64 (fun v _ => R v) 0 _K [.run 248, .know 7 true, .run 49, .know 7 false, .run 49, .know 7 false, .run 133, .know 18 false, .run 47, .know 18 false, .run 47, .know 18 true, .run 26, .done] ((zc P 64 [.agg [.int .i64 9, .str a, .str b, .str c]] GW)) = (((!a == ([] : List UInt8)) = true) ∧ ((!b == ([] : List UInt8)) = false) ∧ ((!c == ([] : List UInt8)) = false) ∧ (decide ((↑a.length : Int) > (64 : Int)) = false) ∧ (decide ((↑b.length : Int) > (200 : Int)) = false) ∧ (decide ((↑c.length : Int) > (5000 : Int)) = true) ∧ (R (.int .i64 3))) := by kernel_rfl
theorem zju : Obl P 64 (fun v _ => R v) 0 _K [.run 248, .know 7 true, .run 49, .know 7 false, .run 49, .know 7 false, .run 133, .know 18 false, .run 47, .know 18 false, .run 47, .know 18 false, .run 52, .done] ((zc P 64 [.agg [.int .i64 9, .str a, .str b, .str c]] GW)) = (((!a == ([] : List UInt8)) = true) ∧ ((!b == ([] : List UInt8)) = false) ∧ ((!c == ([] : List UInt8)) = false) ∧ (decide ((↑a.length : Int) > (64 : Int)) = false) ∧ (decide ((↑b.length : Int) > (200 : Int)) = false) ∧ (decide ((↑c.length : Int) > (5000 : Int)) = false) ∧ (R (.int .i64 0))) := by kernel_rfl
theorem zmH : Obl P 64 (fun v _ => R v) 0 _K [.run 248, .know 7 false, .run 49, .know 7 true, .run 49, .know 7 true, .run 133, .know 18 true, .run 26, .done] ((zc P 64 [.agg [.int .i64 9, .str a, .str b, .str c]] GW)) = (((!a == ([] : List UInt8)) = false) ∧ ((!b == ([] : List UInt8)) = true) ∧ ((!c == ([] : List UInt8)) = true) ∧ (decide ((↑a.length : Int) > (64 : Int)) = true) ∧ (R (.int .i64 3))) := by kernel_rfl
theorem zlw : Obl P 64 (fun v _ => R v) 0 _K [.run 248, .know 7 false, .run 49, .know 7 true, .run 49, .know 7 true, .run 133, .know 18 false, .run 47, .know 18 true, .run 26, .done] ((zc P 64 [.agg [.int .i64 9, .str a, .str b, .str c]] GW)) = (((!a == ([] : List UInt8)) = false) ∧ ((!b == ([] : List UInt8)) = true) ∧ ((!c == ([] : List UInt8)) = true) ∧ (decide ((↑a.length : Int) > (64 : Int)) = false) ∧ (decide ((↑b.length : Int) > (200 : Int)) = true) ∧ (R (.int .i64 3))) := by kernel_rfl
theorem zjy : Obl P 64 (fun v _ => R v) 0 _K [.run 248, .know 7 false, .run 49, .know 7 true, .run 49, .know 7 true, .run 133, .know 18 false, .run 47, .know 18 false, .run 47, .know 18 true, .run 26, .done] ((zc P 64 [.agg [.int .i64 9, .str a, .str b, .str c]] GW)) = (((!a == ([] : List UInt8)) = false) ∧ ((!b == ([] : List UInt8)) = true) ∧ ((!c == ([] : List UInt8)) = true) ∧ (decide ((↑a.length : Int) > (64 : Int)) = false) ∧ (decide ((↑b.length : Int) > (200 : Int)) = false) ∧ (decide ((↑c.length : Int) > (5000 : Int)) = true) ∧ (R (.int .i64 3))) := by kernel_rfl
theorem zhV : Obl P 64 (fun v _ => R v) 0 _K [.run 248, .know 7 false, .run 49, .know 7 true, .run 49, .know 7 true, .run 133, .know 18 false, .run 47, .know 18 false, .run 47, .know 18 false, .run 52, .done] ((zc P 64 [.agg [.int .i64 9, .str a, .str b, .str c]] GW)) = (((!a == ([] : List UInt8)) = false) ∧ ((!b == ([] : List UInt8)) = true) ∧ ((!c == ([] : List UInt8)) = true) ∧ (decide ((↑a.length : Int) > (64 : Int)) = false) ∧ (decide ((↑b.length : Int) > (200 : Int)) = false) ∧ (decide ((↑c.length : Int) > (5000 : Int)) = false) ∧ (R (.int .i64 0))) := by kernel_rfl
theorem zn2 : Obl P 64 (fun v _ => R v) 0 _K [.run 248, .know 7 false, .run 49, .know 7 true, .run 49, .know 7 false, .run 133, .know 18 true, .run 26, .done] ((zc P 64 [.agg [.int .i64 9, .str a, .str b, .str c]] GW)) = (((!a == ([] : List UInt8)) = false) ∧ ((!b == ([] : List UInt8)) = true) ∧ ((!c == ([] : List UInt8)) = false) ∧ (decide ((↑a.length : Int) > (64 : Int)) = true) ∧ (R (.int .i64 3))) := by kernel_rfl
theorem zlg : Obl P 64 (fun v _ => R v) 0 _K [.run 248, .know 7 false, .run 49, .know 7 true, .run 49, .know 7 false, .run 133, .know 18 false, .run 47, .know 18 true, .run 26, .done] ((zc P 64 [.agg [.int .i64 9, .str a, .str b, .str c]] GW)) = (((!a == ([] : List UInt8)) = false) ∧ ((!b == ([] : List UInt8)) = true) ∧ ((!c == ([] : List UInt8)) = false) ∧ (decide ((↑a.length : Int) > (64 : Int)) = false) ∧ (decide ((↑b.length : Int) > (200 : Int)) = true) ∧ (R (.int .i64 3))) := by kernel_rfl
theorem ziv : Obl P 64 (fun v _ => R v) 0 _K [.run 248, .know 7 false, .run 49, .know 7 true, .run 49, .know 7 false, .run 133, .know 18 false, .run 47, .know 18 false, .run 47, .know 18 true, .run 26, .done] ((zc P 64 [.agg [.int .i64 9, .str a, .str b, .str c]] GW)) = (((!a == ([] : List UInt8)) = false) ∧ ((!b == ([] : List UInt8)) = true) ∧ ((!c == ([] : List UInt8)) = false) ∧ (decide ((↑a.length : Int) > (64 : Int)) = false) ∧ (decide ((↑b.length : Int) > (200 : Int)) = false) ∧ (decide ((↑c.length : Int) > (5000 : Int)) = true) ∧ (R (.int .i64 3))) := by kernel_rfl
theorem zhG : Obl P 64 (fun v _ => R v) 0 _K [.run 248, .know 7 false, .run 49, .know 7 true, .run 49, .know 7 false, .run 133, .know 18 false, .run 47, .know 18 false, .run 47, .know 18 false, .run 52, .done] ((zc P 64 [.agg [.int .i64 9, .str a, .str b, .str c]] GW)) = (((!a == ([] : List UInt8)) = false) ∧ ((!b == ([] : List UInt8)) = true) ∧ ((!c == ([] : List UInt8)) = false) ∧ (decide ((↑a.length : Int) > (64 : Int)) = false) ∧ (decide ((↑b.length : Int) > (200 : Int)) = false) ∧ (decide ((↑c.length : Int) > (5000 : Int)) = false) ∧ (R (.int .i64 0))) := by kernel_rfl
theorem zn0 : Obl P 64 (fun v _ => R v) 0 _K [.run 248, .know 7 false, .run 49, .know 7 false, .run 49, .know 7 true, .run 133, .know 18 true, .run 26, .done] ((zc P 64 [.agg [.int .i64 9, .str a, .str b, .str c]] GW)) = (((!a == ([] : List UInt8)) = false) ∧ ((!b == ([] : List UInt8)) = false) ∧ ((!c == ([] : List UInt8)) = true) ∧ (decide ((↑a.length : Int) > (64 : Int)) = true) ∧ (R (.int .i64 3))) := by kernel_rfl
theorem zkK : Obl P 64 (fun v _ => R v) 0 _K [.run 248, .know 7 false, .run 49, .know 7 false, .run 49, .know 7 true, .run 133, .know 18 false, .run 47, .know 18 true, .run 26, .done] ((zc P 64 [.agg [.int .i64 9, .str a, .str b, .str c]] GW)) = (((!a == ([] : List UInt8)) = false) ∧ ((!b == ([] : List UInt8)) = false) ∧ ((!c == ([] : List UInt8)) = true) ∧ (decide ((↑a.length : Int) > (64 : Int)) = false) ∧ (decide ((↑b.length : Int) > (200 : Int)) = true) ∧ (R (.int .i64 3))) := by kernel_rfl
theorem ziw : Obl P 64 (fun v _ => R v) 0 _K [.run 248, .know 7 false, .run 49, .know 7 false, .run 49, .know 7 true, .run 133, .know 18 false, .run 47, .know 18 false, .run 47, .know 18 true, .run 26, .done] ((zc P 64 [.agg [.int .i64 9, .str a, .str b, .str c]] GW)) = (((!a == ([] : List UInt8)) = false) ∧ ((!b == ([] : List UInt8)) = false) ∧ ((!c == ([] : List UInt8)) = true) ∧ (decide ((↑a.length : Int) > (64 : Int)) = false) ∧ (decide ((↑b.length : Int) > (200 : Int)) = false) ∧ (decide ((↑c.length : Int) > (5000 : Int)) = true) ∧ (R (.int .i64 3))) := by kernel_rfl
theorem zhA : Obl P 64 (fun v _ => R v) 0 _K [.run 248, .know 7 false, .run 49, .know 7 false, .run 49, .know 7 true, .run 133, .know 18 false, .run 47, .know 18 false, .run 47, .know 18 false, .run 52, .done] ((zc P 64 [.agg [.int .i64 9, .str a, .str b, .str c]] GW)) = (((!a == ([] : List UInt8)) = false) ∧ ((!b == ([] : List UInt8)) = false) ∧ ((!c == ([] : List UInt8)) = true) ∧ (decide ((↑a.length : Int) > (64 : Int)) = false) ∧ (decide ((↑b.length : Int) > (200 : Int)) = false) ∧ (decide ((↑c.length : Int) > (5000 : Int)) = false) ∧ (R (.int .i64 0))) := by kernel_rfl
theorem zmV : Obl P 64 (fun v _ => R v) 0 _K [.run 248, .know 7 false, .run 49, .know 7 false, .run 49, .know 7 false, .run 133, .know 18 true, .run 26, .done] ((zc P 64 [.agg [.int .i64 9, .str a, .str b, .str c]] GW)) = (((!a == ([] : List UInt8)) = false) ∧ ((!b == ([] : List UInt8)) = false) ∧ ((!c == ([] : List UInt8)) = false) ∧ (decide ((↑a.length : Int) > (64 : Int)) = true) ∧ (R (.int .i64 3))) := by kernel_rfl
theorem zkJ : Obl P 64 (fun v _ => R v) 0 _K [.run 248, .know 7 false, .run 49, .know 7 false, .run 49, .know 7 false, .run 133, .know 18 false, .run 47, .know 18 true, .run 26, .done] ((zc P 64 [.agg [.int .i64 9, .str a, .str b, .str c]] GW)) = (((!a == ([] : List UInt8)) = false) ∧ ((!b == ([] : List UInt8)) = false) ∧ ((!c == ([] : List UInt8)) = false) ∧ (decide ((↑a.length : Int) > (64 : Int)) = false) ∧ (decide ((↑b.length : Int) > (200 : Int)) = true) ∧ (R (.int .i64 3))) := by kernel_rfl
theorem zi8 : Obl P 64 (fun v _ => R v) 0 _K [.run 248, .know 7 false, .run 49, .know 7 false, .run 49, .know 7 false, .run 133, .know 18 false, .run 47, .know 18 false, .run 47, .know 18 true, .run 26, .done] ((zc P 64 [.agg [.int .i64 9, .str a, .str b, .str c]] GW)) = (((!a == ([] : List UInt8)) = false) ∧ ((!b == ([] : List UInt8)) = false) ∧ ((!c == ([] : List UInt8)) = false) ∧ (decide ((↑a.length : Int) > (64 : Int)) = false) ∧ (decide ((↑b.length : Int) > (200 : Int)) = false) ∧ (decide ((↑c.length : Int) > (5000 : Int)) = true) ∧ (R (.int .i64 3))) := by kernel_rfl
theorem zhv : Obl P 64 (fun v _ => R v) 0 _K [.run 248, .know 7 false, .run 49, .know 7 false, .run 49, .know 7 false, .run 133, .know 18 false, .run 47, .know 18 false, .run 47, .know 18 false, .run 52, .done] ((zc P 64 [.agg [.int .i64 9, .str a, .str b, .str c]] GW)) = (((!a == ([] : List UInt8)) = false) ∧ ((!b == ([] : List UInt8)) = false) ∧ ((!c == ([] : List UInt8)) = false) ∧ (decide ((↑a.length : Int) > (64 : Int)) = false) ∧ (decide ((↑b.length : Int) > (200 : Int)) = false) ∧ (decide ((↑c.length : Int) > (5000 : Int)) = false) ∧ (R (.int .i64 0))) := by kernel_rfl
end
theorem zpm (a b c : List UInt8) : Goal P 0 64 (fun v _ => v = .int .i64 (zd2 64 200 5000 a b c)) (zc P 64 [.agg [.int .i64 9, .str a, .str b, .str c]] GW) := by
 cases h0 : ((!a == ([] : List UInt8))) with
 | true =>
  cases h1 : ((!b == ([] : List UInt8))) with
  | true =>
   cases h2 : ((!c == ([] : List UInt8))) with
   | true =>
    cases h3 : (decide ((↑a.length : Int) > (64 : Int))) with
    | true =>
     have g0 := neT h0; have g1 := neT h1; have g2 := neT h2; have g3 := of_decide_eq_true h3; exact Obl.goal (K := fun _ => False) mix (fun _ h => h.elim) (cast (znU _ a b c _).symm ⟨h0, h1, h2, h3, congrArg (AV.int .i64) (zA (by omega) (by omega)).symm⟩)
    | false =>
     cases h4 : (decide ((↑b.length : Int) > (200 : Int))) with
     | true =>
      have g0 := neT h0; have g1 := neT h1; have g2 := neT h2; have g3 := of_decide_eq_false h3; have g4 := of_decide_eq_true h4; exact Obl.goal (K := fun _ => False) mix (fun _ h => h.elim) (cast (zlM _ a b c _).symm ⟨h0, h1, h2, h3, h4, congrArg (AV.int .i64) (zA (by omega) (by omega)).symm⟩)
     | false =>
      cases h5 : (decide ((↑c.length : Int) > (5000 : Int))) with
      | true =>
       have g0 := neT h0; have g1 := neT h1; have g2 := neT h2; have g3 := of_decide_eq_false h3; have g4 := of_decide_eq_false h4; have g5 := of_decide_eq_true h5; exact Obl.goal (K := fun _ => False) mix (fun _ h => h.elim) (cast (zg0 _ a b c _).symm ⟨h0, h1, h2, h3, h4, h5, congrArg (AV.int .i64) (zA (by omega) (by omega)).symm⟩)
      | false =>
       have g0 := neT h0; have g1 := neT h1; have g2 := neT h2; have g3 := of_decide_eq_false h3; have g4 := of_decide_eq_false h4; have g5 := of_decide_eq_false h5; exact Obl.goal (K := fun _ => False) mix (fun _ h => h.elim) (cast (zh7 _ a b c _).symm ⟨h0, h1, h2, h3, h4, h5, congrArg (AV.int .i64) (qi (by omega) (by omega)).symm⟩)
   | false =>
    cases h3 : (decide ((↑a.length : Int) > (64 : Int))) with
    | true =>
     have g0 := neT h0; have g1 := neT h1; have g2 := neF h2; have g3 := of_decide_eq_true h3; exact Obl.goal (K := fun _ => False) mix (fun _ h => h.elim) (cast (znu _ a b c _).symm ⟨h0, h1, h2, h3, congrArg (AV.int .i64) (zA (by omega) (by omega)).symm⟩)
    | false =>
     cases h4 : (decide ((↑b.length : Int) > (200 : Int))) with
     | true =>
      have g0 := neT h0; have g1 := neT h1; have g2 := neF h2; have g3 := of_decide_eq_false h3; have g4 := of_decide_eq_true h4; exact Obl.goal (K := fun _ => False) mix (fun _ h => h.elim) (cast (zk4 _ a b c _).symm ⟨h0, h1, h2, h3, h4, congrArg (AV.int .i64) (zA (by omega) (by omega)).symm⟩)
     | false =>
      cases h5 : (decide ((↑c.length : Int) > (5000 : Int))) with
      | true =>
       have g0 := neT h0; have g1 := neT h1; have g2 := neF h2; have g3 := of_decide_eq_false h3; have g4 := of_decide_eq_false h4; have g5 := of_decide_eq_true h5; exact Obl.goal (K := fun _ => False) mix (fun _ h => h.elim) (cast (zih _ a b c _).symm ⟨h0, h1, h2, h3, h4, h5, congrArg (AV.int .i64) (zA (by omega) (by omega)).symm⟩)
      | false =>
       have g0 := neT h0; have g1 := neT h1; have g2 := neF h2; have g3 := of_decide_eq_false h3; have g4 := of_decide_eq_false h4; have g5 := of_decide_eq_false h5; exact Obl.goal (K := fun _ => False) mix (fun _ h => h.elim) (cast (zhp _ a b c _).symm ⟨h0, h1, h2, h3, h4, h5, congrArg (AV.int .i64) (qi (by omega) (by omega)).symm⟩)
  | false =>
   cases h2 : ((!c == ([] : List UInt8))) with
   | true =>
    cases h3 : (decide ((↑a.length : Int) > (64 : Int))) with
    | true =>
     have g0 := neT h0; have g1 := neF h1; have g2 := neT h2; have g3 := of_decide_eq_true h3; exact Obl.goal (K := fun _ => False) mix (fun _ h => h.elim) (cast (zm5 _ a b c _).symm ⟨h0, h1, h2, h3, congrArg (AV.int .i64) (zA (by omega) (by omega)).symm⟩)
    | false =>
     cases h4 : (decide ((↑b.length : Int) > (200 : Int))) with
     | true =>
      have g0 := neT h0; have g1 := neF h1; have g2 := neT h2; have g3 := of_decide_eq_false h3; have g4 := of_decide_eq_true h4; exact Obl.goal (K := fun _ => False) mix (fun _ h => h.elim) (cast (zkW _ a b c _).symm ⟨h0, h1, h2, h3, h4, congrArg (AV.int .i64) (zA (by omega) (by omega)).symm⟩)
     | false =>
      cases h5 : (decide ((↑c.length : Int) > (5000 : Int))) with
      | true =>
       have g0 := neT h0; have g1 := neF h1; have g2 := neT h2; have g3 := of_decide_eq_false h3; have g4 := of_decide_eq_false h4; have g5 := of_decide_eq_true h5; exact Obl.goal (K := fun _ => False) mix (fun _ h => h.elim) (cast (zi6 _ a b c _).symm ⟨h0, h1, h2, h3, h4, h5, congrArg (AV.int .i64) (zA (by omega) (by omega)).symm⟩)
      | false =>
       have g0 := neT h0; have g1 := neF h1; have g2 := neT h2; have g3 := of_decide_eq_false h3; have g4 := of_decide_eq_false h4; have g5 := of_decide_eq_false h5; exact Obl.goal (K := fun _ => False) mix (fun _ h => h.elim) (cast (zhS _ a b c _).symm ⟨h0, h1, h2, h3, h4, h5, congrArg (AV.int .i64) (qi (by omega) (by omega)).symm⟩)
   | false =>
    cases h3 : (decide ((↑a.length : Int) > (64 : Int))) with
    | true =>
     have g0 := neT h0; have g1 := neF h1; have g2 := neF h2; have g3 := of_decide_eq_true h3; exact Obl.goal (K := fun _ => False) mix (fun _ h => h.elim) (cast (znl _ a b c _).symm ⟨h0, h1, h2, h3, congrArg (AV.int .i64) (zA (by omega) (by omega)).symm⟩)
    | false =>
     cases h4 : (decide ((↑b.length : Int) > (200 : Int))) with
     | true =>
      have g0 := neT h0; have g1 := neF h1; have g2 := neF h2; have g3 := of_decide_eq_false h3; have g4 := of_decide_eq_true h4; exact Obl.goal (K := fun _ => False) mix (fun _ h => h.elim) (cast (zk9 _ a b c _).symm ⟨h0, h1, h2, h3, h4, congrArg (AV.int .i64) (zA (by omega) (by omega)).symm⟩)
     | false =>
      cases h5 : (decide ((↑c.length : Int) > (5000 : Int))) with
      | true =>
       have g0 := neT h0; have g1 := neF h1; have g2 := neF h2; have g3 := of_decide_eq_false h3; have g4 := of_decide_eq_false h4; have g5 := of_decide_eq_true h5; exact Obl.goal (K := fun _ => False) mix (fun _ h => h.elim) (cast (zh2 _ a b c _).symm ⟨h0, h1, h2, h3, h4, h5, congrArg (AV.int .i64) (zA (by omega) (by omega)).symm⟩)
      | false =>
       have g0 := neT h0; have g1 := neF h1; have g2 := neF h2; have g3 := of_decide_eq_false h3; have g4 := of_decide_eq_false h4; have g5 := of_decide_eq_false h5; exact Obl.goal (K := fun _ => False) mix (fun _ h => h.elim) (cast (zju _ a b c _).symm ⟨h0, h1, h2, h3, h4, h5, congrArg (AV.int .i64) (qi (by omega) (by omega)).symm⟩)
 | false =>
  cases h1 : ((!b == ([] : List UInt8))) with
  | true =>
   cases h2 : ((!c == ([] : List UInt8))) with
   | true =>
    cases h3 : (decide ((↑a.length : Int) > (64 : Int))) with
    | true =>
     have g0 := neF h0; have g1 := neT h1; have g2 := neT h2; have g3 := of_decide_eq_true h3; exact Obl.goal (K := fun _ => False) mix (fun _ h => h.elim) (cast (zmH _ a b c _).symm ⟨h0, h1, h2, h3, congrArg (AV.int .i64) (zA (by omega) (by omega)).symm⟩)
    | false =>
     cases h4 : (decide ((↑b.length : Int) > (200 : Int))) with
     | true =>
      have g0 := neF h0; have g1 := neT h1; have g2 := neT h2; have g3 := of_decide_eq_false h3; have g4 := of_decide_eq_true h4; exact Obl.goal (K := fun _ => False) mix (fun _ h => h.elim) (cast (zlw _ a b c _).symm ⟨h0, h1, h2, h3, h4, congrArg (AV.int .i64) (zA (by omega) (by omega)).symm⟩)
     | false =>
      cases h5 : (decide ((↑c.length : Int) > (5000 : Int))) with
      | true =>
       have g0 := neF h0; have g1 := neT h1; have g2 := neT h2; have g3 := of_decide_eq_false h3; have g4 := of_decide_eq_false h4; have g5 := of_decide_eq_true h5; exact Obl.goal (K := fun _ => False) mix (fun _ h => h.elim) (cast (zjy _ a b c _).symm ⟨h0, h1, h2, h3, h4, h5, congrArg (AV.int .i64) (zA (by omega) (by omega)).symm⟩)
      | false =>
       have g0 := neF h0; have g1 := neT h1; have g2 := neT h2; have g3 := of_decide_eq_false h3; have g4 := of_decide_eq_false h4; have g5 := of_decide_eq_false h5; exact Obl.goal (K := fun _ => False) mix (fun _ h => h.elim) (cast (zhV _ a b c _).symm ⟨h0, h1, h2, h3, h4, h5, congrArg (AV.int .i64) (qi (by omega) (by omega)).symm⟩)
   | false =>
    cases h3 : (decide ((↑a.length : Int) > (64 : Int))) with
    | true =>
     have g0 := neF h0; have g1 := neT h1; have g2 := neF h2; have g3 := of_decide_eq_true h3; exact Obl.goal (K := fun _ => False) mix (fun _ h => h.elim) (cast (zn2 _ a b c _).symm ⟨h0, h1, h2, h3, congrArg (AV.int .i64) (zA (by omega) (by omega)).symm⟩)
    | false =>
     cases h4 : (decide ((↑b.length : Int) > (200 : Int))) with
     | true =>
      have g0 := neF h0; have g1 := neT h1; have g2 := neF h2; have g3 := of_decide_eq_false h3; have g4 := of_decide_eq_true h4; exact Obl.goal (K := fun _ => False) mix (fun _ h => h.elim) (cast (zlg _ a b c _).symm ⟨h0, h1, h2, h3, h4, congrArg (AV.int .i64) (zA (by omega) (by omega)).symm⟩)
     | false =>
      cases h5 : (decide ((↑c.length : Int) > (5000 : Int))) with
      | true =>
       have g0 := neF h0; have g1 := neT h1; have g2 := neF h2; have g3 := of_decide_eq_false h3; have g4 := of_decide_eq_false h4; have g5 := of_decide_eq_true h5; exact Obl.goal (K := fun _ => False) mix (fun _ h => h.elim) (cast (ziv _ a b c _).symm ⟨h0, h1, h2, h3, h4, h5, congrArg (AV.int .i64) (zA (by omega) (by omega)).symm⟩)
      | false =>
       have g0 := neF h0; have g1 := neT h1; have g2 := neF h2; have g3 := of_decide_eq_false h3; have g4 := of_decide_eq_false h4; have g5 := of_decide_eq_false h5; exact Obl.goal (K := fun _ => False) mix (fun _ h => h.elim) (cast (zhG _ a b c _).symm ⟨h0, h1, h2, h3, h4, h5, congrArg (AV.int .i64) (qi (by omega) (by omega)).symm⟩)
  | false =>
   cases h2 : ((!c == ([] : List UInt8))) with
   | true =>
    cases h3 : (decide ((↑a.length : Int) > (64 : Int))) with
    | true =>
     have g0 := neF h0; have g1 := neF h1; have g2 := neT h2; have g3 := of_decide_eq_true h3; exact Obl.goal (K := fun _ => False) mix (fun _ h => h.elim) (cast (zn0 _ a b c _).symm ⟨h0, h1, h2, h3, congrArg (AV.int .i64) (zA (by omega) (by omega)).symm⟩)
    | false =>
     cases h4 : (decide ((↑b.length : Int) > (200 : Int))) with
     | true =>
      have g0 := neF h0; have g1 := neF h1; have g2 := neT h2; have g3 := of_decide_eq_false h3; have g4 := of_decide_eq_true h4; exact Obl.goal (K := fun _ => False) mix (fun _ h => h.elim) (cast (zkK _ a b c _).symm ⟨h0, h1, h2, h3, h4, congrArg (AV.int .i64) (zA (by omega) (by omega)).symm⟩)
     | false =>
      cases h5 : (decide ((↑c.length : Int) > (5000 : Int))) with
      | true =>
       have g0 := neF h0; have g1 := neF h1; have g2 := neT h2; have g3 := of_decide_eq_false h3; have g4 := of_decide_eq_false h4; have g5 := of_decide_eq_true h5; exact Obl.goal (K := fun _ => False) mix (fun _ h => h.elim) (cast (ziw _ a b c _).symm ⟨h0, h1, h2, h3, h4, h5, congrArg (AV.int .i64) (zA (by omega) (by omega)).symm⟩)
      | false =>
       have g0 := neF h0; have g1 := neF h1; have g2 := neT h2; have g3 := of_decide_eq_false h3; have g4 := of_decide_eq_false h4; have g5 := of_decide_eq_false h5; exact Obl.goal (K := fun _ => False) mix (fun _ h => h.elim) (cast (zhA _ a b c _).symm ⟨h0, h1, h2, h3, h4, h5, congrArg (AV.int .i64) (qi (by omega) (by omega)).symm⟩)
   | false =>
    cases h3 : (decide ((↑a.length : Int) > (64 : Int))) with
    | true =>
     have g0 := neF h0; have g1 := neF h1; have g2 := neF h2; have g3 := of_decide_eq_true h3; exact Obl.goal (K := fun _ => False) mix (fun _ h => h.elim) (cast (zmV _ a b c _).symm ⟨h0, h1, h2, h3, congrArg (AV.int .i64) (zA (by omega) (by omega)).symm⟩)
    | false =>
     cases h4 : (decide ((↑b.length : Int) > (200 : Int))) with
     | true =>
      have g0 := neF h0; have g1 := neF h1; have g2 := neF h2; have g3 := of_decide_eq_false h3; have g4 := of_decide_eq_true h4; exact Obl.goal (K := fun _ => False) mix (fun _ h => h.elim) (cast (zkJ _ a b c _).symm ⟨h0, h1, h2, h3, h4, congrArg (AV.int .i64) (zA (by omega) (by omega)).symm⟩)
     | false =>
      cases h5 : (decide ((↑c.length : Int) > (5000 : Int))) with
      | true =>
       have g0 := neF h0; have g1 := neF h1; have g2 := neF h2; have g3 := of_decide_eq_false h3; have g4 := of_decide_eq_false h4; have g5 := of_decide_eq_true h5; exact Obl.goal (K := fun _ => False) mix (fun _ h => h.elim) (cast (zi8 _ a b c _).symm ⟨h0, h1, h2, h3, h4, h5, congrArg (AV.int .i64) (zA (by omega) (by omega)).symm⟩)
      | false =>
       have g0 := neF h0; have g1 := neF h1; have g2 := neF h2; have g3 := of_decide_eq_false h3; have g4 := of_decide_eq_false h4; have g5 := of_decide_eq_false h5; exact Obl.goal (K := fun _ => False) mix (fun _ h => h.elim) (cast (zhv _ a b c _).symm ⟨h0, h1, h2, h3, h4, h5, congrArg (AV.int .i64) (qi (by omega) (by omega)).symm⟩)
theorem ckky (R : AV → Prop) (k : Int) (a b c : List UInt8) (_K : AM → Prop) : Obl P 64 (fun v _ => R v) 0 _K [.run 36, .know 17 true, .run 128, .done] ((zc P 64 [.agg [.int .i64 k, .str a, .str b, .str c]] GW)) = ((decide (k < (1 : Int)) = true) ∧ (R (.int .i64 2))) := by kernel_rfl
theorem ckkny (R : AV → Prop) (k : Int) (a b c : List UInt8) (_K : AM → Prop) : Obl P 64 (fun v _ => R v) 0 _K [.run 36, .know 17 false, .run 4, .know 20 true, .run 124, .done] ((zc P 64 [.agg [.int .i64 k, .str a, .str b, .str c]] GW)) = ((decide (k < (1 : Int)) = false) ∧ (decide (k > (9 : Int)) = true) ∧ (R (.int .i64 2))) := by kernel_rfl
theorem zlH (k : Int) (a b c : List UInt8) : Goal P 0 64 (fun v _ => v = .int .i64 (chk k a b c)) (zc P 64 [.agg [.int .i64 k, .str a, .str b, .str c]] GW) := by
 by_cases h1 : k < 1
 · exact Obl.goal (K := fun _ => False) mix (fun _ h => h.elim) (cast (ckky _ k a b c _).symm ⟨decide_eq_true h1, congrArg (AV.int .i64) (if_pos (.inl h1)).symm⟩)
 by_cases h9 : k > 9
 · exact Obl.goal (K := fun _ => False) mix (fun _ h => h.elim) (cast (ckkny _ k a b c _).symm ⟨decide_eq_false h1, decide_eq_true h9, congrArg (AV.int .i64) (if_pos (.inr h9)).symm⟩)
 have hk : k = 1 ∨ k = 2 ∨ k = 3 ∨ k = 4 ∨ k = 5 ∨ k = 6 ∨ k = 7 ∨ k = 8 ∨ k = 9 := by omega
 rcases hk with rfl | rfl | rfl | rfl | rfl | rfl | rfl | rfl | rfl
 · exact zoR a b c
 · exact zoV a b c
 · exact zoo a b c
 · exact zoW a b c
 · exact zo5 a b c
 · exact zoi a b c
 · exact zoZ a b c
 · exact zoH a b c
 · exact zpm a b c
end Go.Proofs.YtdbfpjgnlfejmaaDoor.mq
end
section
set_option maxRecDepth 100000
set_option linter.unusedVariables false
namespace Go.Proofs.YtdbfpjgnlfejmaaDoor.mq
open Go Ev
theorem enY (R : AV → Prop) (k e : Int) (a b c : List UInt8) (G : T (T AV)) (_K : AM → Prop) : Obl P 33 (fun v _ => R v) 0 _K [.run 11, .callv [0] (.int .i64 e), .run 7, .know 11 true, .run 8, .done] ((zc P 33 [.agg [.int .i64 k, .str a, .str b, .str c]] G)) = ((Goal P (0) 64 (fun x x_1 => x = AV.int IntKind.i64 e) (zc P 64 [.agg [.int .i64 k, .str a, .str b, .str c]] G)) ∧ ((e != (0 : Int)) = true) ∧ (R (.tup [.str [], .int .i64 e]))) := by kernel_rfl
theorem enS (R : AV → Prop) (k e : Int) (a b c s0 s1 s2 s3 : List UInt8) (G : T (T AV)) (_K : AM → Prop) : Obl P 33 (fun v _ => R v) 0 _K [.run 11, .callv [0] (.int .i64 e), .run 7, .know 11 false, .run 8, .callv [0, 1] (.str s0), .run 47, .callv [0, 1] (.str s1), .run 26, .callv [0, 1] (.str s2), .run 26, .callv [0, 1] (.str s3), .run 22, .done] ((zc P 33 [.agg [.int .i64 k, .str a, .str b, .str c]] G)) = ((Goal P (0) 64 (fun x x_1 => x = AV.int IntKind.i64 e) (zc P 64 [.agg [.int .i64 k, .str a, .str b, .str c]] G)) ∧ ((e != (0 : Int)) = false) ∧ (Goal P (0) 48 (fun x x_1 => x = AV.str s0) (zc P 48 [.str [], .int .u64 (IntKind.u64.wrap k)] G)) ∧ (Goal P (0) 49 (fun x x_1 => x = AV.str s1) (zc P 49 [.str s0, .str a] G)) ∧ (Goal P (0) 49 (fun x x_1 => x = AV.str s2) (zc P 49 [.str s1, .str b] G)) ∧ (Goal P (0) 49 (fun x x_1 => x = AV.str s3) (zc P 49 [.str s2, .str c] G)) ∧ (R (.tup [.str s3, .int .i64 0]))) := by kernel_rfl
def lay (k : Int) (a b c : List UInt8) : List UInt8 :=
 [] ++ row (IntKind.u64.wrap k) ++ row (IntKind.u64.wrap a.length) ++ a ++ row (IntKind.u64.wrap b.length) ++ b ++ row (IntKind.u64.wrap c.length) ++ c
def zml (k : Int) (a b c : List UInt8) : AV := if chk k a b c = 0 then .tup [.str (lay k a b c), .int .i64 0] else .tup [.str [], .int .i64 (chk k a b c)]
theorem zeT (k : Int) : 0 ≤ IntKind.u64.wrap k ∧ IntKind.u64.wrap k ≤ 18446744073709551615 := by
 rw [IntKind.wrap_u64]
 omega
theorem zoC {k : Int} {a b c : List UInt8} (ha : a.length ≤ 100000) (hb : b.length ≤ 100000) (hc : c.length ≤ 100000) : Goal P 0 33 (fun v _ => v = zml k a b c) (zc P 33 [.agg [.int .i64 k, .str a, .str b, .str c]] GW) := by
 have hk := zeT k
 have r1 := zi (IntKind.u64.wrap k)
 have r2 := zi (IntKind.u64.wrap a.length)
 have r3 := zi (IntKind.u64.wrap b.length)
 by_cases h : chk k a b c = 0
 · refine Obl.goal (K := fun _ => False) mix (fun _ h => h.elim) (cast (enS (fun v => v = zml k a b c) k (chk k a b c) a b c _ _ _ _ GW _).symm ⟨zlH k a b c, by rw [h]; rfl, zcJ [] _ hk.1 hk.2 (by decide), zoc _ a ?_, zoc _ b ?_, zoc _ c ?_, ?_⟩)
   · simp only [List.length_append, List.length_nil]; omega
   · simp only [List.length_append, List.length_nil]; omega
   · simp only [List.length_append, List.length_nil]; omega
   · unfold zml
     rw [if_pos h]
     rfl
 · refine Obl.goal (K := fun _ => False) mix (fun _ h => h.elim) (cast (enY (fun v => v = zml k a b c) k (chk k a b c) a b c GW _).symm ⟨zlH k a b c, by simpa using h, ?_⟩)
   unfold zml
   rw [if_neg h]
end Go.Proofs.YtdbfpjgnlfejmaaDoor.mq
end
section
set_option maxRecDepth 100000
set_option linter.unusedVariables false
namespace Go.Proofs.YtdbfpjgnlfejmaaDoor.dg
open Go Ev mq
noncomputable abbrev HQ (k : Int) (a b c : List UInt8) (G : T (T AV)) : AHeap := ⟨(.node .leaf (some (.cells (.node (.node (.node .leaf (some (.str c)) .leaf) (some (.str a)) .leaf) (some (.int .i64 k)) (.node .leaf (some (.str b)) .leaf)) 4 39 0 0 1 0 false .leaf)) .leaf), 1, G⟩
noncomputable def MDN (A : AV) (s : List UInt8) (G : T (T AV)) : AM := ⟨⟨23, 33, (.node .leaf none (.node (.node (.node .leaf (some (.ptr 1 0 0)) .leaf) none .leaf) (some (.ptr 0 0 0)) .leaf)),
 [.ops (rg P 23 [1, 0]).toList ((rg P 23 [1, 0]).toList.drop 2), .code (cd P (23 : Nat) [(1 : Nat), (1 : Nat)])], [], .run, CallKind.normal, none⟩,
 [],
 ⟨(.node (.node .leaf (some (.cells (.node (.node .leaf (some (.bool false)) .leaf) (some A) .leaf) 2 101 0 0 1 0 false .leaf)) .leaf) (some (.cells (.node (.node (.node .leaf (some (.str [])) .leaf) (some (.str [])) .leaf) (some (.int .i64 0)) (.node .leaf (some (.str [])) .leaf)) 4 39 0 0 1 0 false .leaf)) (.node .leaf (some (.cells (.fn fun j => some (AV.int IntKind.u8 (yy s j))) s.length 5 0 0 1 0 true .leaf)) .leaf)), 3, G⟩⟩
theorem q0 (R : AV → AHeap → Prop) (s : List UInt8) (G : T (T AV)) (K : AM → Prop) : Obl P 23 (fun v h => R v h) 0 K [.run 9, .callh [] [0] (.ptr 1 0 0) (RN s G), .can 0 [0, 2, 1] [2, 8] []] ((zc P 23 [.str s] G)) = ((za fun j => some (.int .u8 (yy s j))) ∧ (Goal P (0) 54 (fun v h => v = AV.ptr (1 : Nat) (0 : Nat) (0 : Nat) ∧ h = RN s G) (zc P 54 [.str s] G)) ∧ (za fun j => some (.int .u8 (yy s j))) ∧ K (MDN (.slg 2 0 0 s.length 0) s G)) := by kernel_rfl
theorem qE (R : AV → AHeap → Prop) (G : T (T AV)) (_K : AM → Prop) : Obl P 23 (fun v h => R v h) 0 _K [.run 562, .can 0 [0] [2, 3] [], .run 1, .done] ((zc P 23 [.str []] G)) = ((R (.tup [.agg [.int .i64 0, .str [], .str [], .str []], .int .i64 4]) ((HQ 0 [] [] [] G)))) := by kernel_rfl
theorem qn (R : AV → AHeap → Prop) (s : List UInt8) (x cp : Nat) (G : T (T AV)) (_K : AM → Prop) : Obl P 23 (fun v h => R v h) 0 _K [.run 6, .callh [(1, 0, []), (2, 0, [0])] [0] (.int .u64 0) (RZ s G), .run 16, .callh [(1, 0, [])] [0] (.str []) (RB G), .run 2, .callh [(1, 0, [])] [0] (.str []) (RB G), .run 2, .callh [(1, 0, [])] [0] (.str []) (RB G), .run 62, .can 0 [0] [2, 3] [], .run 1, .done] ((MDN (.slc 2 0 0 x cp) s G)) = ((za fun j => some (.int .u8 (yy s j))) ∧ (za fun j => some (.int .u8 (yy s j))) ∧ (Goal P (2) 55 (fun v h => v = AV.int IntKind.u64 (0 : Int) ∧ h = RZ s G) (zf P 55 [.ptr 0 0 0] (RG s 0 x cp G))) ∧ (Goal P (1) 56 (fun v h => v = AV.str [] ∧ h = RB G) (zf P 56 [.ptr 0 0 0] (RB G))) ∧ (Goal P (1) 56 (fun v h => v = AV.str [] ∧ h = RB G) (zf P 56 [.ptr 0 0 0] (RB G))) ∧ (Goal P (1) 56 (fun v h => v = AV.str [] ∧ h = RB G) (zf P 56 [.ptr 0 0 0] (RB G))) ∧ (R (.tup [.agg [.int .i64 0, .str [], .str [], .str []], .int .i64 4]) ((HQ 0 [] [] [] G)))) := by kernel_rfl
theorem q9 (R : AV → AHeap → Prop) (s : List UInt8) (n : Int) (x cp x1 y1 : Nat) (G : T (T AV)) (_K : AM → Prop) : Obl P 23 (fun v h => R v h) 0 _K [.run 6, .callh [(1, 0, []), (2, 0, [0])] [0] (.int .u64 n) (RG s y1 x1 x1 G), .run 8, .know 12 true, .run 7, .can 0 [0] [2, 3] [], .run 1, .done] ((MDN (.slc 2 0 0 x cp) s G)) = ((za fun j => some (.int .u8 (yy s j))) ∧ (za fun j => some (.int .u8 (yy s j))) ∧ (Goal P (2) 55 (fun v h => v = AV.int IntKind.u64 n ∧ h = RG s y1 x1 x1 G) (zf P 55 [.ptr 0 0 0] (RG s 0 x cp G))) ∧ (decide (n > (9 : Int)) = true) ∧ (R (.tup [.agg [.int .i64 0, .str [], .str [], .str []], .int .i64 4]) ((HQ 0 [] [] [] G)))) := by kernel_rfl
theorem qa (R : AV → AHeap → Prop) (s : List UInt8) (n : Int) (x cp x1 y1 : Nat) (G : T (T AV)) (_K : AM → Prop) : Obl P 23 (fun v h => R v h) 0 _K [.run 6, .callh [(1, 0, []), (2, 0, [0])] [0] (.int .u64 n) (RG s y1 x1 x1 G), .run 8, .know 12 false, .run 8, .callh [(1, 0, []), (2, 0, [0])] [0] (.str []) (RZ s G), .run 2, .callh [(1, 0, [])] [0] (.str []) (RB G), .run 2, .callh [(1, 0, [])] [0] (.str []) (RB G), .run 62, .can 0 [0] [2, 3] [], .run 1, .done] ((MDN (.slc 2 0 0 x cp) s G)) = ((za fun j => some (.int .u8 (yy s j))) ∧ (za fun j => some (.int .u8 (yy s j))) ∧ (Goal P (2) 55 (fun v h => v = AV.int IntKind.u64 n ∧ h = RG s y1 x1 x1 G) (zf P 55 [.ptr 0 0 0] (RG s 0 x cp G))) ∧ (decide (n > (9 : Int)) = false) ∧ (za fun j => some (.int .u8 (yy s j))) ∧ (za fun j => some (.int .u8 (yy s j))) ∧ (Goal P (2) 56 (fun v h => v = AV.str [] ∧ h = RZ s G) (zf P 56 [.ptr 0 0 0] (RG s y1 x1 x1 G))) ∧ (Goal P (1) 56 (fun v h => v = AV.str [] ∧ h = RB G) (zf P 56 [.ptr 0 0 0] (RB G))) ∧ (Goal P (1) 56 (fun v h => v = AV.str [] ∧ h = RB G) (zf P 56 [.ptr 0 0 0] (RB G))) ∧ (R (.tup [.agg [.int .i64 0, .str [], .str [], .str []], .int .i64 4]) ((HQ 0 [] [] [] G)))) := by kernel_rfl
theorem qb (R : AV → AHeap → Prop) (s a : List UInt8) (n : Int) (x cp x1 y1 x2 y2 : Nat) (G : T (T AV)) (_K : AM → Prop) : Obl P 23 (fun v h => R v h) 0 _K [.run 6, .callh [(1, 0, []), (2, 0, [0])] [0] (.int .u64 n) (RG s y1 x1 x1 G), .run 8, .know 12 false, .run 8, .callh [(1, 0, []), (2, 0, [0])] [0] (.str a) (RG s y2 x2 x2 G), .run 2, .callh [(1, 0, []), (2, 0, [0])] [0] (.str []) (RZ s G), .run 2, .callh [(1, 0, [])] [0] (.str []) (RB G), .run 62, .can 0 [0] [2, 3] [], .run 1, .done] ((MDN (.slc 2 0 0 x cp) s G)) = ((za fun j => some (.int .u8 (yy s j))) ∧ (za fun j => some (.int .u8 (yy s j))) ∧ (Goal P (2) 55 (fun v h => v = AV.int IntKind.u64 n ∧ h = RG s y1 x1 x1 G) (zf P 55 [.ptr 0 0 0] (RG s 0 x cp G))) ∧ (decide (n > (9 : Int)) = false) ∧ (za fun j => some (.int .u8 (yy s j))) ∧ (za fun j => some (.int .u8 (yy s j))) ∧ (Goal P (2) 56 (fun v h => v = AV.str a ∧ h = RG s y2 x2 x2 G) (zf P 56 [.ptr 0 0 0] (RG s y1 x1 x1 G))) ∧ (za fun j => some (.int .u8 (yy s j))) ∧ (za fun j => some (.int .u8 (yy s j))) ∧ (Goal P (2) 56 (fun v h => v = AV.str [] ∧ h = RZ s G) (zf P 56 [.ptr 0 0 0] (RG s y2 x2 x2 G))) ∧ (Goal P (1) 56 (fun v h => v = AV.str [] ∧ h = RB G) (zf P 56 [.ptr 0 0 0] (RB G))) ∧ (R (.tup [.agg [.int .i64 0, .str [], .str [], .str []], .int .i64 4]) ((HQ 0 [] [] [] G)))) := by kernel_rfl
theorem qc (R : AV → AHeap → Prop) (s a b : List UInt8) (n : Int) (x cp x1 y1 x2 y2 x3 y3 : Nat) (G : T (T AV)) (_K : AM → Prop) : Obl P 23 (fun v h => R v h) 0 _K [.run 6, .callh [(1, 0, []), (2, 0, [0])] [0] (.int .u64 n) (RG s y1 x1 x1 G), .run 8, .know 12 false, .run 8, .callh [(1, 0, []), (2, 0, [0])] [0] (.str a) (RG s y2 x2 x2 G), .run 2, .callh [(1, 0, []), (2, 0, [0])] [0] (.str b) (RG s y3 x3 x3 G), .run 2, .callh [(1, 0, []), (2, 0, [0])] [0] (.str []) (RZ s G), .run 62, .can 0 [0] [2, 3] [], .run 1, .done] ((MDN (.slc 2 0 0 x cp) s G)) = ((za fun j => some (.int .u8 (yy s j))) ∧ (za fun j => some (.int .u8 (yy s j))) ∧ (Goal P (2) 55 (fun v h => v = AV.int IntKind.u64 n ∧ h = RG s y1 x1 x1 G) (zf P 55 [.ptr 0 0 0] (RG s 0 x cp G))) ∧ (decide (n > (9 : Int)) = false) ∧ (za fun j => some (.int .u8 (yy s j))) ∧ (za fun j => some (.int .u8 (yy s j))) ∧ (Goal P (2) 56 (fun v h => v = AV.str a ∧ h = RG s y2 x2 x2 G) (zf P 56 [.ptr 0 0 0] (RG s y1 x1 x1 G))) ∧ (za fun j => some (.int .u8 (yy s j))) ∧ (za fun j => some (.int .u8 (yy s j))) ∧ (Goal P (2) 56 (fun v h => v = AV.str b ∧ h = RG s y3 x3 x3 G) (zf P 56 [.ptr 0 0 0] (RG s y2 x2 x2 G))) ∧ (za fun j => some (.int .u8 (yy s j))) ∧ (za fun j => some (.int .u8 (yy s j))) ∧ (Goal P (2) 56 (fun v h => v = AV.str [] ∧ h = RZ s G) (zf P 56 [.ptr 0 0 0] (RG s y3 x3 x3 G))) ∧ (R (.tup [.agg [.int .i64 0, .str [], .str [], .str []], .int .i64 4]) ((HQ 0 [] [] [] G)))) := by kernel_rfl
theorem qx (R : AV → AHeap → Prop) (s a b c : List UInt8) (n : Int) (x cp x1 y1 x2 y2 x3 y3 x4 y4 : Nat) (G : T (T AV)) (_K : AM → Prop) : Obl P 23 (fun v h => R v h) 0 _K [.run 6, .callh [(1, 0, []), (2, 0, [0])] [0] (.int .u64 n) (RG s y1 x1 x1 G), .run 8, .know 12 false, .run 8, .callh [(1, 0, []), (2, 0, [0])] [0] (.str a) (RG s y2 x2 x2 G), .run 2, .callh [(1, 0, []), (2, 0, [0])] [0] (.str b) (RG s y3 x3 x3 G), .run 2, .callh [(1, 0, []), (2, 0, [0])] [0] (.str c) (RG s y4 x4 x4 G), .run 50, .know 26 true, .run 12, .can 0 [0] [2, 3] [], .run 1, .done] ((MDN (.slc 2 0 0 x cp) s G)) = ((za fun j => some (.int .u8 (yy s j))) ∧ (za fun j => some (.int .u8 (yy s j))) ∧ (Goal P (2) 55 (fun v h => v = AV.int IntKind.u64 n ∧ h = RG s y1 x1 x1 G) (zf P 55 [.ptr 0 0 0] (RG s 0 x cp G))) ∧ (decide (n > (9 : Int)) = false) ∧ (za fun j => some (.int .u8 (yy s j))) ∧ (za fun j => some (.int .u8 (yy s j))) ∧ (Goal P (2) 56 (fun v h => v = AV.str a ∧ h = RG s y2 x2 x2 G) (zf P 56 [.ptr 0 0 0] (RG s y1 x1 x1 G))) ∧ (za fun j => some (.int .u8 (yy s j))) ∧ (za fun j => some (.int .u8 (yy s j))) ∧ (Goal P (2) 56 (fun v h => v = AV.str b ∧ h = RG s y3 x3 x3 G) (zf P 56 [.ptr 0 0 0] (RG s y2 x2 x2 G))) ∧ (za fun j => some (.int .u8 (yy s j))) ∧ (za fun j => some (.int .u8 (yy s j))) ∧ (Goal P (2) 56 (fun v h => v = AV.str c ∧ h = RG s y4 x4 x4 G) (zf P 56 [.ptr 0 0 0] (RG s y3 x3 x3 G))) ∧ ((!(↑x4 : Int) == (0 : Int)) = true) ∧ (R (.tup [.agg [.int .i64 0, .str [], .str [], .str []], .int .i64 4]) ((HQ 0 [] [] [] G)))) := by kernel_rfl
theorem qy (R : AV → AHeap → Prop) (s a b c : List UInt8) (n e : Int) (x cp x1 y1 x2 y2 x3 y3 y4 : Nat) (G : T (T AV)) (_K : AM → Prop) : Obl P 23 (fun v h => R v h) 0 _K [.run 6, .callh [(1, 0, []), (2, 0, [0])] [0] (.int .u64 n) (RG s y1 x1 x1 G), .run 8, .know 12 false, .run 8, .callh [(1, 0, []), (2, 0, [0])] [0] (.str a) (RG s y2 x2 x2 G), .run 2, .callh [(1, 0, []), (2, 0, [0])] [0] (.str b) (RG s y3 x3 x3 G), .run 2, .callh [(1, 0, []), (2, 0, [0])] [0] (.str c) (RG s y4 0 0 G), .run 52, .callv [0] (.int .i64 e), .run 3, .know 30 true, .run 7, .can 0 [0] [2, 3] [], .run 1, .done] ((MDN (.slc 2 0 0 x cp) s G)) = ((za fun j => some (.int .u8 (yy s j))) ∧ (za fun j => some (.int .u8 (yy s j))) ∧ (Goal P (2) 55 (fun v h => v = AV.int IntKind.u64 n ∧ h = RG s y1 x1 x1 G) (zf P 55 [.ptr 0 0 0] (RG s 0 x cp G))) ∧ (decide (n > (9 : Int)) = false) ∧ (za fun j => some (.int .u8 (yy s j))) ∧ (za fun j => some (.int .u8 (yy s j))) ∧ (Goal P (2) 56 (fun v h => v = AV.str a ∧ h = RG s y2 x2 x2 G) (zf P 56 [.ptr 0 0 0] (RG s y1 x1 x1 G))) ∧ (za fun j => some (.int .u8 (yy s j))) ∧ (za fun j => some (.int .u8 (yy s j))) ∧ (Goal P (2) 56 (fun v h => v = AV.str b ∧ h = RG s y3 x3 x3 G) (zf P 56 [.ptr 0 0 0] (RG s y2 x2 x2 G))) ∧ (za fun j => some (.int .u8 (yy s j))) ∧ (za fun j => some (.int .u8 (yy s j))) ∧ (Goal P (2) 56 (fun v h => v = AV.str c ∧ h = RG s y4 (0 : Nat) (0 : Nat) G) (zf P 56 [.ptr 0 0 0] (RG s y3 x3 x3 G))) ∧ (Goal P (0) 64 (fun v _ => v = AV.int IntKind.i64 e) (zc P 64 [.agg [.int .i64 (IntKind.i64.wrap n), .str a, .str b, .str c]] G)) ∧ ((e != (0 : Int)) = true) ∧ (R (.tup [.agg [.int .i64 0, .str [], .str [], .str []], .int .i64 4]) ((HQ 0 [] [] [] G)))) := by kernel_rfl
theorem qz (R : AV → AHeap → Prop) (s a b c : List UInt8) (n e : Int) (x cp x1 y1 x2 y2 x3 y3 y4 : Nat) (G : T (T AV)) (_K : AM → Prop) : Obl P 23 (fun v h => R v h) 0 _K [.run 6, .callh [(1, 0, []), (2, 0, [0])] [0] (.int .u64 n) (RG s y1 x1 x1 G), .run 8, .know 12 false, .run 8, .callh [(1, 0, []), (2, 0, [0])] [0] (.str a) (RG s y2 x2 x2 G), .run 2, .callh [(1, 0, []), (2, 0, [0])] [0] (.str b) (RG s y3 x3 x3 G), .run 2, .callh [(1, 0, []), (2, 0, [0])] [0] (.str c) (RG s y4 0 0 G), .run 52, .callv [0] (.int .i64 e), .run 3, .know 30 false, .run 8, .can 0 [0] [2, 3] [], .run 1, .done] ((MDN (.slc 2 0 0 x cp) s G)) = ((za fun j => some (.int .u8 (yy s j))) ∧ (za fun j => some (.int .u8 (yy s j))) ∧ (Goal P (2) 55 (fun v h => v = AV.int IntKind.u64 n ∧ h = RG s y1 x1 x1 G) (zf P 55 [.ptr 0 0 0] (RG s 0 x cp G))) ∧ (decide (n > (9 : Int)) = false) ∧ (za fun j => some (.int .u8 (yy s j))) ∧ (za fun j => some (.int .u8 (yy s j))) ∧ (Goal P (2) 56 (fun v h => v = AV.str a ∧ h = RG s y2 x2 x2 G) (zf P 56 [.ptr 0 0 0] (RG s y1 x1 x1 G))) ∧ (za fun j => some (.int .u8 (yy s j))) ∧ (za fun j => some (.int .u8 (yy s j))) ∧ (Goal P (2) 56 (fun v h => v = AV.str b ∧ h = RG s y3 x3 x3 G) (zf P 56 [.ptr 0 0 0] (RG s y2 x2 x2 G))) ∧ (za fun j => some (.int .u8 (yy s j))) ∧ (za fun j => some (.int .u8 (yy s j))) ∧ (Goal P (2) 56 (fun v h => v = AV.str c ∧ h = RG s y4 (0 : Nat) (0 : Nat) G) (zf P 56 [.ptr 0 0 0] (RG s y3 x3 x3 G))) ∧ (Goal P (0) 64 (fun v _ => v = AV.int IntKind.i64 e) (zc P 64 [.agg [.int .i64 (IntKind.i64.wrap n), .str a, .str b, .str c]] G)) ∧ ((e != (0 : Int)) = false) ∧ (R (.tup [.agg [.int .i64 (IntKind.i64.wrap n), .str a, .str b, .str c], .int .i64 0]) ((HQ (IntKind.i64.wrap n) a b c G)))) := by kernel_rfl
theorem zn5 (s : List UInt8) (Q : AV → AHeap → Prop) (G : T (T AV)) (K : AM → Prop) : Obl P 23 Q 0 K [.cap 1 0] (MDN (.slg 2 0 0 s.length 0) s G) = (0 < s.length ∧ ∀ cap, s.length ≤ cap → K (MDN (.slc 2 0 0 s.length cap) s G)) := by kernel_rfl
theorem zas {k : Int} {a b c : List UInt8} (h : chk k a b c = 0) : 1 ≤ k ∧ k ≤ 9 ∧ a.length ≤ 64 ∧ b.length ≤ 200 ∧ c.length ≤ 5000 := by
 unfold chk at h
 split at h
 · cases h
 · rename_i hk
   unfold zd2 at h
   split at h
   · cases h
   · split at h
     · cases h
     · rename_i h1 h2
       have hA : limA k ≤ 64 := by unfold limA; split <;> omega
       have hB : limB k ≤ 200 := by unfold limB; split <;> omega
       have hC : limC k ≤ 5000 := by unfold limC; split <;> omega
       omega
theorem zf0 {k : Int} {a b c : List UInt8} (h : chk k a b c = 0) : lay k a b c = row k ++ (row (a.length : Nat) ++ (a ++ (row (b.length : Nat) ++ (b ++ (row (c.length : Nat) ++ c))))) := by
 obtain ⟨h1, h2, h3, h4, h5⟩ := zas h
 have w : IntKind.u64.wrap k = k := IntWalk.u64_in _ (by omega)
 unfold lay
 rw [w, zl2 _ (by omega), zl2 _ (by omega), zl2 _ (by omega)]
 simp only [List.nil_append, List.append_assoc]
abbrev QBad (m : AM) : Prop := Goal P 0 23 (fun v h => v = .tup [.agg [.int .i64 0, .str [], .str [], .str []], .int .i64 4] ∧ h = HQ 0 [] [] [] GW) m
section
variable {s : List UInt8}
theorem zjp (h0 : 0 < s.length) {Q : AV → AHeap → Prop} (h : ∀ cap, s.length ≤ cap → Goal P 0 23 Q (MDN (.slc 2 0 0 s.length cap) s GW)) : Goal P 0 23 Q (zc P 23 [.str s] GW) :=
 Obl.goal (K := Goal P 0 23 _) mix (fun _ h => h) (cast (q0 _ _ GW _).symm ⟨zb s, zcp 0 s, zb s, Obl.goal (K := Goal P 0 23 _) mix (fun _ h => h) (cast (zn5 s _ GW _).symm ⟨h0, h⟩)⟩)
theorem zfl (hs : s.length ≤ 200000) (hno : ∀ k a b c, chk k a b c = 0 → lay k a b c ≠ s) : QBad (zc P 23 [.str s] GW) := by
 by_cases h0 : 0 < s.length
 · refine zjp h0 fun cap hcap => ?_
   rcases vj hs (st0 s) hcap with ⟨n, x1, y1, g0, s1, n0, n1, e0⟩ | g0
   · by_cases hn : n > 9
     · exact Obl.goal (K := Goal P 0 23 _) mix (fun _ h => h) (cast (q9 _ (s) _ (s.length) (cap) _ _ GW _).symm ⟨zb s, zb s, g0, decide_eq_true hn, rfl, rfl⟩)
     · rcases yM hs s1 (Nat.le_refl _) with ⟨a, x2, y2, g1, s2, e1⟩ | g1
       · rcases yM hs s2 (Nat.le_refl _) with ⟨b, x3, y3, g2, s3, e2⟩ | g2
         · rcases yM hs s3 (Nat.le_refl _) with ⟨c, x4, y4, g3, s4, e3⟩ | g3
           · by_cases hx : x4 = 0
             · subst hx
               have w : IntKind.i64.wrap n = n := IntWalk.i64_in _ (by omega)
               have hne : chk n a b c ≠ 0 := by
                intro hc
                apply hno n a b c hc
                rw [zf0 hc, ← vA s, e0, e1, e2, e3, zax, List.append_nil]
               exact Obl.goal (K := Goal P 0 23 _) mix (fun _ h => h) (cast (qy _ (s) _ _ _ _ (chk n a b c) (s.length) (cap) _ _ _ _ _ _ _ GW _).symm ⟨zb s, zb s, g0, decide_eq_false hn, zb s, zb s, g1, zb s, zb s, g2, zb s, zb s, g3, by rw [w]; exact zlH n a b c, by simpa using hne, rfl, rfl⟩)
             · exact Obl.goal (K := Goal P 0 23 _) mix (fun _ h => h) (cast (qx _ (s) _ _ _ _ (s.length) (cap) _ _ _ _ _ _ _ _ GW _).symm ⟨zb s, zb s, g0, decide_eq_false hn, zb s, zb s, g1, zb s, zb s, g2, zb s, zb s, g3, nzT (by omega), rfl, rfl⟩)
           · exact Obl.goal (K := Goal P 0 23 _) mix (fun _ h => h) (cast (qc _ (s) _ _ _ (s.length) (cap) _ _ _ _ _ _ GW _).symm ⟨zb s, zb s, g0, decide_eq_false hn, zb s, zb s, g1, zb s, zb s, g2, zb s, zb s, g3, rfl, rfl⟩)
         · exact Obl.goal (K := Goal P 0 23 _) mix (fun _ h => h) (cast (qb _ (s) _ _ (s.length) (cap) _ _ _ _ GW _).symm ⟨zb s, zb s, g0, decide_eq_false hn, zb s, zb s, g1, zb s, zb s, g2, qL, rfl, rfl⟩)
       · exact Obl.goal (K := Goal P 0 23 _) mix (fun _ h => h) (cast (qa _ (s) _ (s.length) (cap) _ _ GW _).symm ⟨zb s, zb s, g0, decide_eq_false hn, zb s, zb s, g1, qL, qL, rfl, rfl⟩)
   · exact Obl.goal (K := Goal P 0 23 _) mix (fun _ h => h) (cast (qn _ (s) (s.length) (cap) GW _).symm ⟨zb s, zb s, g0, qL, qL, qL, rfl, rfl⟩)
 · obtain rfl : s = [] := List.eq_nil_of_length_eq_zero (by omega)
   exact Obl.goal (K := Goal P 0 23 _) mix (fun _ h => h) (cast (qE _ GW _).symm ⟨rfl, rfl⟩)
theorem zng (hs : s.length ≤ 200000) {k : Int} {a b c : List UInt8} (hc : chk k a b c = 0) (he : lay k a b c = s) :
 Goal P 0 23 (fun v h => v = .tup [.agg [.int .i64 k, .str a, .str b, .str c], .int .i64 0] ∧ h = HQ k a b c GW) (zc P 23 [.str s] GW) := by
 obtain ⟨l1, l2, l3, l4, l5⟩ := zas hc
 rw [zf0 hc] at he
 have hp := zm k
 have h0 : 0 < s.length := by rw [← he, List.length_append]; omega
 refine zjp h0 fun cap hcap => ?_
 obtain ⟨x1, y1, g0, s1, e1⟩ := zdc hs (st0 s) hcap (n := k) (by omega) (by omega) ((vA s).trans he.symm)
 obtain ⟨x2, y2, g1, s2, e2⟩ := qS hs s1 (Nat.le_refl _) e1
 obtain ⟨x3, y3, g2, s3, e3⟩ := qS hs s2 (Nat.le_refl _) e2
 obtain ⟨x4, y4, g3, s4, e4⟩ := qS hs s3 (Nat.le_refl _) (t := c) (rest := []) (by rw [List.append_nil]; exact e3)
 have hx : x4 = 0 := by
  have := ye s4
  rw [e4] at this
  exact this.symm
 subst hx
 have w : IntKind.i64.wrap k = k := IntWalk.i64_in _ (by omega)
 have hk := zlH k a b c
 rw [hc] at hk
 exact Obl.goal (K := Goal P 0 23 _) mix (fun _ h => h) (cast (qz _ (s) _ _ _ _ (0) (s.length) (cap) _ _ _ _ _ _ _ GW _).symm ⟨zb s, zb s, g0, decide_eq_false (by omega), zb s, zb s, g1, zb s, zb s, g2, zb s, zb s, g3, by rw [w]; exact hk, by decide, by rw [w], by rw [w]⟩)
end
end Go.Proofs.YtdbfpjgnlfejmaaDoor.dg
end
