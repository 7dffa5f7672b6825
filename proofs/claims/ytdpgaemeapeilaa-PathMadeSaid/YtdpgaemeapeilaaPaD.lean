/- Segments: what the program and the document's answer tell of any text. -/
import Derived.Test.YtdpgaemeapeilaaPaC
set_option maxRecDepth 100000
set_option linter.unusedVariables false
set_option linter.unusedSimpArgs false
namespace Go.Proofs.Ytdpgaemeapeilaa.pth
open Go Ev

noncomputable def Sg (p : List UInt8) (i : Int) (G : T (T AV)) : AM := ⟨⟨20, 39, (.node (.node (.node (.node (.node .leaf (some (.int .i64 i)) .leaf) none .leaf) none .leaf) none .leaf) (some (.str p)) (.node .leaf none (.node .leaf none (.node .leaf (some (.int .i64 (p.length : Int))) .leaf)))),
   [.code (cd P 20 [1, 1, 0, 1, 0, 0]), .inLoop (cd P 20 [1, 1, 0, 1, 0, 0]), .inBlock 0, .code (cd P 20 [1, 1, 1])], [], .run, CallKind.normal, none⟩, [], ⟨.leaf, 0, G⟩⟩
noncomputable def Rs (p : List UInt8) (i : Int) (G : T (T AV)) : AM := ⟨⟨17, 45, (.node (.node (.node .leaf (some (.int .i64 i)) .leaf) none .leaf) (some (.str p)) .leaf),
   [.code (cd P 17 [1, 1, 0, 1, 0, 0]), .inLoop (cd P 17 [1, 1, 0, 1, 0, 0]), .inBlock 0, .code (cd P 17 [1, 1, 1])], [], .run, CallKind.normal, none⟩, [], ⟨.leaf, 0, G⟩⟩

theorem sgyyy (R : AV → Prop) (p : List UInt8) (i : Int) (G : T (T AV)) (K : AM → Prop) : Obl P 20 (fun v _ => R v) 0 K [.run 5, .know 16 true, .run 13, .op, .run 9, .know 24 true, .run 5, .know 21 true, .run 11, .can 0 [] [0, 14, 15] []] ((Sg p i G)) = ((decide (i < (↑p.length : Int)) = true) ∧ ((0 : Int) ≤ i ∧ i < (↑p.length : Int)) ∧ (decide ((97 : Int) ≤ (↑(p.getD i.toNat (0 : UInt8)).toNat : Int)) = true) ∧ (decide ((↑(p.getD i.toNat (0 : UInt8)).toNat : Int) ≤ (122 : Int)) = true) ∧ K (Sg p (IntKind.i64.wrap (i + (1 : Int))) G)) := by kernel_rfl

theorem sgyynyy (R : AV → Prop) (p : List UInt8) (i : Int) (G : T (T AV)) (K : AM → Prop) : Obl P 20 (fun v _ => R v) 0 K [.run 5, .know 16 true, .run 13, .op, .run 9, .know 24 true, .run 5, .know 21 false, .run 6, .know 30 true, .run 5, .know 21 true, .run 11, .can 0 [] [0, 14, 15] []] ((Sg p i G)) = ((decide (i < (↑p.length : Int)) = true) ∧ ((0 : Int) ≤ i ∧ i < (↑p.length : Int)) ∧ (decide ((97 : Int) ≤ (↑(p.getD i.toNat (0 : UInt8)).toNat : Int)) = true) ∧ (decide ((↑(p.getD i.toNat (0 : UInt8)).toNat : Int) ≤ (122 : Int)) = false) ∧ (decide ((48 : Int) ≤ (↑(p.getD i.toNat (0 : UInt8)).toNat : Int)) = true) ∧ (decide ((↑(p.getD i.toNat (0 : UInt8)).toNat : Int) ≤ (57 : Int)) = true) ∧ K (Sg p (IntKind.i64.wrap (i + (1 : Int))) G)) := by kernel_rfl

theorem sgyynyny (R : AV → Prop) (p : List UInt8) (i : Int) (G : T (T AV)) (K : AM → Prop) : Obl P 20 (fun v _ => R v) 0 K [.run 5, .know 16 true, .run 13, .op, .run 9, .know 24 true, .run 5, .know 21 false, .run 6, .know 30 true, .run 5, .know 21 false, .run 7, .know 21 true, .run 11, .can 0 [] [0, 14, 15] []] ((Sg p i G)) = ((decide (i < (↑p.length : Int)) = true) ∧ ((0 : Int) ≤ i ∧ i < (↑p.length : Int)) ∧ (decide ((97 : Int) ≤ (↑(p.getD i.toNat (0 : UInt8)).toNat : Int)) = true) ∧ (decide ((↑(p.getD i.toNat (0 : UInt8)).toNat : Int) ≤ (122 : Int)) = false) ∧ (decide ((48 : Int) ≤ (↑(p.getD i.toNat (0 : UInt8)).toNat : Int)) = true) ∧ (decide ((↑(p.getD i.toNat (0 : UInt8)).toNat : Int) ≤ (57 : Int)) = false) ∧ (((↑(p.getD i.toNat (0 : UInt8)).toNat : Int) == (95 : Int)) = true) ∧ K (Sg p (IntKind.i64.wrap (i + (1 : Int))) G)) := by kernel_rfl

theorem sgyynynny (R : AV → Prop) (p : List UInt8) (i : Int) (G : T (T AV)) (K : AM → Prop) : Obl P 20 (fun v _ => R v) 0 K [.run 5, .know 16 true, .run 13, .op, .run 9, .know 24 true, .run 5, .know 21 false, .run 6, .know 30 true, .run 5, .know 21 false, .run 7, .know 21 false, .run 6, .know 21 true, .run 9, .can 0 [] [0, 14, 15] []] ((Sg p i G)) = ((decide (i < (↑p.length : Int)) = true) ∧ ((0 : Int) ≤ i ∧ i < (↑p.length : Int)) ∧ (decide ((97 : Int) ≤ (↑(p.getD i.toNat (0 : UInt8)).toNat : Int)) = true) ∧ (decide ((↑(p.getD i.toNat (0 : UInt8)).toNat : Int) ≤ (122 : Int)) = false) ∧ (decide ((48 : Int) ≤ (↑(p.getD i.toNat (0 : UInt8)).toNat : Int)) = true) ∧ (decide ((↑(p.getD i.toNat (0 : UInt8)).toNat : Int) ≤ (57 : Int)) = false) ∧ (((↑(p.getD i.toNat (0 : UInt8)).toNat : Int) == (95 : Int)) = false) ∧ (((↑(p.getD i.toNat (0 : UInt8)).toNat : Int) == (45 : Int)) = true) ∧ K (Sg p (IntKind.i64.wrap (i + (1 : Int))) G)) := by kernel_rfl

theorem sgyynynnn (R : AV → Prop) (p : List UInt8) (i : Int) (G : T (T AV)) (_K : AM → Prop) : Obl P 20 (fun v _ => R v) 0 _K [.run 5, .know 16 true, .run 13, .op, .run 9, .know 24 true, .run 5, .know 21 false, .run 6, .know 30 true, .run 5, .know 21 false, .run 7, .know 21 false, .run 6, .know 21 false, .run 6, .done] ((Sg p i G)) = ((decide (i < (↑p.length : Int)) = true) ∧ ((0 : Int) ≤ i ∧ i < (↑p.length : Int)) ∧ (decide ((97 : Int) ≤ (↑(p.getD i.toNat (0 : UInt8)).toNat : Int)) = true) ∧ (decide ((↑(p.getD i.toNat (0 : UInt8)).toNat : Int) ≤ (122 : Int)) = false) ∧ (decide ((48 : Int) ≤ (↑(p.getD i.toNat (0 : UInt8)).toNat : Int)) = true) ∧ (decide ((↑(p.getD i.toNat (0 : UInt8)).toNat : Int) ≤ (57 : Int)) = false) ∧ (((↑(p.getD i.toNat (0 : UInt8)).toNat : Int) == (95 : Int)) = false) ∧ (((↑(p.getD i.toNat (0 : UInt8)).toNat : Int) == (45 : Int)) = false) ∧ (R (.bool false))) := by kernel_rfl

theorem sgyynny (R : AV → Prop) (p : List UInt8) (i : Int) (G : T (T AV)) (K : AM → Prop) : Obl P 20 (fun v _ => R v) 0 K [.run 5, .know 16 true, .run 13, .op, .run 9, .know 24 true, .run 5, .know 21 false, .run 6, .know 30 false, .run 12, .know 21 true, .run 11, .can 0 [] [0, 14, 15] []] ((Sg p i G)) = ((decide (i < (↑p.length : Int)) = true) ∧ ((0 : Int) ≤ i ∧ i < (↑p.length : Int)) ∧ (decide ((97 : Int) ≤ (↑(p.getD i.toNat (0 : UInt8)).toNat : Int)) = true) ∧ (decide ((↑(p.getD i.toNat (0 : UInt8)).toNat : Int) ≤ (122 : Int)) = false) ∧ (decide ((48 : Int) ≤ (↑(p.getD i.toNat (0 : UInt8)).toNat : Int)) = false) ∧ (((↑(p.getD i.toNat (0 : UInt8)).toNat : Int) == (95 : Int)) = true) ∧ K (Sg p (IntKind.i64.wrap (i + (1 : Int))) G)) := by kernel_rfl

theorem sgyynnny (R : AV → Prop) (p : List UInt8) (i : Int) (G : T (T AV)) (K : AM → Prop) : Obl P 20 (fun v _ => R v) 0 K [.run 5, .know 16 true, .run 13, .op, .run 9, .know 24 true, .run 5, .know 21 false, .run 6, .know 30 false, .run 12, .know 21 false, .run 6, .know 21 true, .run 9, .can 0 [] [0, 14, 15] []] ((Sg p i G)) = ((decide (i < (↑p.length : Int)) = true) ∧ ((0 : Int) ≤ i ∧ i < (↑p.length : Int)) ∧ (decide ((97 : Int) ≤ (↑(p.getD i.toNat (0 : UInt8)).toNat : Int)) = true) ∧ (decide ((↑(p.getD i.toNat (0 : UInt8)).toNat : Int) ≤ (122 : Int)) = false) ∧ (decide ((48 : Int) ≤ (↑(p.getD i.toNat (0 : UInt8)).toNat : Int)) = false) ∧ (((↑(p.getD i.toNat (0 : UInt8)).toNat : Int) == (95 : Int)) = false) ∧ (((↑(p.getD i.toNat (0 : UInt8)).toNat : Int) == (45 : Int)) = true) ∧ K (Sg p (IntKind.i64.wrap (i + (1 : Int))) G)) := by kernel_rfl

theorem sgyynnnn (R : AV → Prop) (p : List UInt8) (i : Int) (G : T (T AV)) (_K : AM → Prop) : Obl P 20 (fun v _ => R v) 0 _K [.run 5, .know 16 true, .run 13, .op, .run 9, .know 24 true, .run 5, .know 21 false, .run 6, .know 30 false, .run 12, .know 21 false, .run 6, .know 21 false, .run 6, .done] ((Sg p i G)) = ((decide (i < (↑p.length : Int)) = true) ∧ ((0 : Int) ≤ i ∧ i < (↑p.length : Int)) ∧ (decide ((97 : Int) ≤ (↑(p.getD i.toNat (0 : UInt8)).toNat : Int)) = true) ∧ (decide ((↑(p.getD i.toNat (0 : UInt8)).toNat : Int) ≤ (122 : Int)) = false) ∧ (decide ((48 : Int) ≤ (↑(p.getD i.toNat (0 : UInt8)).toNat : Int)) = false) ∧ (((↑(p.getD i.toNat (0 : UInt8)).toNat : Int) == (95 : Int)) = false) ∧ (((↑(p.getD i.toNat (0 : UInt8)).toNat : Int) == (45 : Int)) = false) ∧ (R (.bool false))) := by kernel_rfl

theorem sgynyy (R : AV → Prop) (p : List UInt8) (i : Int) (G : T (T AV)) (K : AM → Prop) : Obl P 20 (fun v _ => R v) 0 K [.run 5, .know 16 true, .run 13, .op, .run 9, .know 24 false, .run 11, .know 30 true, .run 5, .know 21 true, .run 11, .can 0 [] [0, 14, 15] []] ((Sg p i G)) = ((decide (i < (↑p.length : Int)) = true) ∧ ((0 : Int) ≤ i ∧ i < (↑p.length : Int)) ∧ (decide ((97 : Int) ≤ (↑(p.getD i.toNat (0 : UInt8)).toNat : Int)) = false) ∧ (decide ((48 : Int) ≤ (↑(p.getD i.toNat (0 : UInt8)).toNat : Int)) = true) ∧ (decide ((↑(p.getD i.toNat (0 : UInt8)).toNat : Int) ≤ (57 : Int)) = true) ∧ K (Sg p (IntKind.i64.wrap (i + (1 : Int))) G)) := by kernel_rfl

theorem sgynyny (R : AV → Prop) (p : List UInt8) (i : Int) (G : T (T AV)) (K : AM → Prop) : Obl P 20 (fun v _ => R v) 0 K [.run 5, .know 16 true, .run 13, .op, .run 9, .know 24 false, .run 11, .know 30 true, .run 5, .know 21 false, .run 7, .know 21 true, .run 11, .can 0 [] [0, 14, 15] []] ((Sg p i G)) = ((decide (i < (↑p.length : Int)) = true) ∧ ((0 : Int) ≤ i ∧ i < (↑p.length : Int)) ∧ (decide ((97 : Int) ≤ (↑(p.getD i.toNat (0 : UInt8)).toNat : Int)) = false) ∧ (decide ((48 : Int) ≤ (↑(p.getD i.toNat (0 : UInt8)).toNat : Int)) = true) ∧ (decide ((↑(p.getD i.toNat (0 : UInt8)).toNat : Int) ≤ (57 : Int)) = false) ∧ (((↑(p.getD i.toNat (0 : UInt8)).toNat : Int) == (95 : Int)) = true) ∧ K (Sg p (IntKind.i64.wrap (i + (1 : Int))) G)) := by kernel_rfl

theorem sgynynny (R : AV → Prop) (p : List UInt8) (i : Int) (G : T (T AV)) (K : AM → Prop) : Obl P 20 (fun v _ => R v) 0 K [.run 5, .know 16 true, .run 13, .op, .run 9, .know 24 false, .run 11, .know 30 true, .run 5, .know 21 false, .run 7, .know 21 false, .run 6, .know 21 true, .run 9, .can 0 [] [0, 14, 15] []] ((Sg p i G)) = ((decide (i < (↑p.length : Int)) = true) ∧ ((0 : Int) ≤ i ∧ i < (↑p.length : Int)) ∧ (decide ((97 : Int) ≤ (↑(p.getD i.toNat (0 : UInt8)).toNat : Int)) = false) ∧ (decide ((48 : Int) ≤ (↑(p.getD i.toNat (0 : UInt8)).toNat : Int)) = true) ∧ (decide ((↑(p.getD i.toNat (0 : UInt8)).toNat : Int) ≤ (57 : Int)) = false) ∧ (((↑(p.getD i.toNat (0 : UInt8)).toNat : Int) == (95 : Int)) = false) ∧ (((↑(p.getD i.toNat (0 : UInt8)).toNat : Int) == (45 : Int)) = true) ∧ K (Sg p (IntKind.i64.wrap (i + (1 : Int))) G)) := by kernel_rfl

theorem sgynynnn (R : AV → Prop) (p : List UInt8) (i : Int) (G : T (T AV)) (_K : AM → Prop) : Obl P 20 (fun v _ => R v) 0 _K [.run 5, .know 16 true, .run 13, .op, .run 9, .know 24 false, .run 11, .know 30 true, .run 5, .know 21 false, .run 7, .know 21 false, .run 6, .know 21 false, .run 6, .done] ((Sg p i G)) = ((decide (i < (↑p.length : Int)) = true) ∧ ((0 : Int) ≤ i ∧ i < (↑p.length : Int)) ∧ (decide ((97 : Int) ≤ (↑(p.getD i.toNat (0 : UInt8)).toNat : Int)) = false) ∧ (decide ((48 : Int) ≤ (↑(p.getD i.toNat (0 : UInt8)).toNat : Int)) = true) ∧ (decide ((↑(p.getD i.toNat (0 : UInt8)).toNat : Int) ≤ (57 : Int)) = false) ∧ (((↑(p.getD i.toNat (0 : UInt8)).toNat : Int) == (95 : Int)) = false) ∧ (((↑(p.getD i.toNat (0 : UInt8)).toNat : Int) == (45 : Int)) = false) ∧ (R (.bool false))) := by kernel_rfl

theorem sgynny (R : AV → Prop) (p : List UInt8) (i : Int) (G : T (T AV)) (K : AM → Prop) : Obl P 20 (fun v _ => R v) 0 K [.run 5, .know 16 true, .run 13, .op, .run 9, .know 24 false, .run 11, .know 30 false, .run 12, .know 21 true, .run 11, .can 0 [] [0, 14, 15] []] ((Sg p i G)) = ((decide (i < (↑p.length : Int)) = true) ∧ ((0 : Int) ≤ i ∧ i < (↑p.length : Int)) ∧ (decide ((97 : Int) ≤ (↑(p.getD i.toNat (0 : UInt8)).toNat : Int)) = false) ∧ (decide ((48 : Int) ≤ (↑(p.getD i.toNat (0 : UInt8)).toNat : Int)) = false) ∧ (((↑(p.getD i.toNat (0 : UInt8)).toNat : Int) == (95 : Int)) = true) ∧ K (Sg p (IntKind.i64.wrap (i + (1 : Int))) G)) := by kernel_rfl

theorem sgynnny (R : AV → Prop) (p : List UInt8) (i : Int) (G : T (T AV)) (K : AM → Prop) : Obl P 20 (fun v _ => R v) 0 K [.run 5, .know 16 true, .run 13, .op, .run 9, .know 24 false, .run 11, .know 30 false, .run 12, .know 21 false, .run 6, .know 21 true, .run 9, .can 0 [] [0, 14, 15] []] ((Sg p i G)) = ((decide (i < (↑p.length : Int)) = true) ∧ ((0 : Int) ≤ i ∧ i < (↑p.length : Int)) ∧ (decide ((97 : Int) ≤ (↑(p.getD i.toNat (0 : UInt8)).toNat : Int)) = false) ∧ (decide ((48 : Int) ≤ (↑(p.getD i.toNat (0 : UInt8)).toNat : Int)) = false) ∧ (((↑(p.getD i.toNat (0 : UInt8)).toNat : Int) == (95 : Int)) = false) ∧ (((↑(p.getD i.toNat (0 : UInt8)).toNat : Int) == (45 : Int)) = true) ∧ K (Sg p (IntKind.i64.wrap (i + (1 : Int))) G)) := by kernel_rfl

theorem sgynnnn (R : AV → Prop) (p : List UInt8) (i : Int) (G : T (T AV)) (_K : AM → Prop) : Obl P 20 (fun v _ => R v) 0 _K [.run 5, .know 16 true, .run 13, .op, .run 9, .know 24 false, .run 11, .know 30 false, .run 12, .know 21 false, .run 6, .know 21 false, .run 6, .done] ((Sg p i G)) = ((decide (i < (↑p.length : Int)) = true) ∧ ((0 : Int) ≤ i ∧ i < (↑p.length : Int)) ∧ (decide ((97 : Int) ≤ (↑(p.getD i.toNat (0 : UInt8)).toNat : Int)) = false) ∧ (decide ((48 : Int) ≤ (↑(p.getD i.toNat (0 : UInt8)).toNat : Int)) = false) ∧ (((↑(p.getD i.toNat (0 : UInt8)).toNat : Int) == (95 : Int)) = false) ∧ (((↑(p.getD i.toNat (0 : UInt8)).toNat : Int) == (45 : Int)) = false) ∧ (R (.bool false))) := by kernel_rfl

theorem sgn (R : AV → Prop) (p : List UInt8) (i : Int) (G : T (T AV)) (_K : AM → Prop) : Obl P 20 (fun v _ => R v) 0 _K [.run 5, .know 16 false, .run 7, .done] ((Sg p i G)) = ((decide (i < (↑p.length : Int)) = false) ∧ (R (.bool true))) := by kernel_rfl

theorem sgRound {R : AV → Prop} {p : List UInt8} {i : Int} {G : T (T AV)} (hi : 0 ≤ i)
    (hE : ¬ i < (p.length : Int) → R (.bool true)) (hT : i < (p.length : Int) → seg1 (p.getD i.toNat 0).toNat = true → Goal P 0 20 (fun v _ => R v) (Sg p (IntKind.i64.wrap (i + 1)) G)) (hF : i < (p.length : Int) → seg1 (p.getD i.toNat 0).toNat = false → R (.bool false)) : Goal P 0 20 (fun v _ => R v) (Sg p i G) := by
  cases h0 : (decide (i < (↑p.length : Int))) with
  | true =>
    cases h1 : (decide ((97 : Int) ≤ (↑(p.getD i.toNat (0 : UInt8)).toNat : Int))) with
    | true =>
      cases h2 : (decide ((↑(p.getD i.toNat (0 : UInt8)).toNat : Int) ≤ (122 : Int))) with
      | true =>
        exact Obl.goal (K := Goal P 0 20 _) mix (fun _ h => h) (cast (sgyyy (fun v => R v) p i G _).symm ⟨h0, ⟨hi, of_decide_eq_true h0⟩, h1, h2, hT (of_decide_eq_true h0) (by unfold seg1; refine decide_eq_true ?_; simp only [decide_eq_true_eq, decide_eq_false_iff_not, beq_iff_eq, beq_eq_false_iff_ne, ne_eq, Bool.not_eq_true', Bool.not_eq_false'] at h0 h1 h2; omega)⟩)
      | false =>
        cases h3 : (decide ((48 : Int) ≤ (↑(p.getD i.toNat (0 : UInt8)).toNat : Int))) with
        | true =>
          cases h4 : (decide ((↑(p.getD i.toNat (0 : UInt8)).toNat : Int) ≤ (57 : Int))) with
          | true =>
            exact Obl.goal (K := Goal P 0 20 _) mix (fun _ h => h) (cast (sgyynyy (fun v => R v) p i G _).symm ⟨h0, ⟨hi, of_decide_eq_true h0⟩, h1, h2, h3, h4, hT (of_decide_eq_true h0) (by unfold seg1; refine decide_eq_true ?_; simp only [decide_eq_true_eq, decide_eq_false_iff_not, beq_iff_eq, beq_eq_false_iff_ne, ne_eq, Bool.not_eq_true', Bool.not_eq_false'] at h0 h1 h2 h3 h4; omega)⟩)
          | false =>
            cases h5 : (((↑(p.getD i.toNat (0 : UInt8)).toNat : Int) == (95 : Int))) with
            | true =>
              exact Obl.goal (K := Goal P 0 20 _) mix (fun _ h => h) (cast (sgyynyny (fun v => R v) p i G _).symm ⟨h0, ⟨hi, of_decide_eq_true h0⟩, h1, h2, h3, h4, h5, hT (of_decide_eq_true h0) (by unfold seg1; refine decide_eq_true ?_; simp only [decide_eq_true_eq, decide_eq_false_iff_not, beq_iff_eq, beq_eq_false_iff_ne, ne_eq, Bool.not_eq_true', Bool.not_eq_false'] at h0 h1 h2 h3 h4 h5; omega)⟩)
            | false =>
              cases h6 : (((↑(p.getD i.toNat (0 : UInt8)).toNat : Int) == (45 : Int))) with
              | true =>
                exact Obl.goal (K := Goal P 0 20 _) mix (fun _ h => h) (cast (sgyynynny (fun v => R v) p i G _).symm ⟨h0, ⟨hi, of_decide_eq_true h0⟩, h1, h2, h3, h4, h5, h6, hT (of_decide_eq_true h0) (by unfold seg1; refine decide_eq_true ?_; simp only [decide_eq_true_eq, decide_eq_false_iff_not, beq_iff_eq, beq_eq_false_iff_ne, ne_eq, Bool.not_eq_true', Bool.not_eq_false'] at h0 h1 h2 h3 h4 h5 h6; omega)⟩)
              | false =>
                exact Obl.goal (K := Goal P 0 20 _) mix (fun _ h => h) (cast (sgyynynnn (fun v => R v) p i G _).symm ⟨h0, ⟨hi, of_decide_eq_true h0⟩, h1, h2, h3, h4, h5, h6, hF (of_decide_eq_true h0) (by unfold seg1; refine decide_eq_false ?_; simp only [decide_eq_true_eq, decide_eq_false_iff_not, beq_iff_eq, beq_eq_false_iff_ne, ne_eq, Bool.not_eq_true', Bool.not_eq_false'] at h0 h1 h2 h3 h4 h5 h6; omega)⟩)
        | false =>
          cases h4 : (((↑(p.getD i.toNat (0 : UInt8)).toNat : Int) == (95 : Int))) with
          | true =>
            exact Obl.goal (K := Goal P 0 20 _) mix (fun _ h => h) (cast (sgyynny (fun v => R v) p i G _).symm ⟨h0, ⟨hi, of_decide_eq_true h0⟩, h1, h2, h3, h4, hT (of_decide_eq_true h0) (by unfold seg1; refine decide_eq_true ?_; simp only [decide_eq_true_eq, decide_eq_false_iff_not, beq_iff_eq, beq_eq_false_iff_ne, ne_eq, Bool.not_eq_true', Bool.not_eq_false'] at h0 h1 h2 h3 h4; omega)⟩)
          | false =>
            cases h5 : (((↑(p.getD i.toNat (0 : UInt8)).toNat : Int) == (45 : Int))) with
            | true =>
              exact Obl.goal (K := Goal P 0 20 _) mix (fun _ h => h) (cast (sgyynnny (fun v => R v) p i G _).symm ⟨h0, ⟨hi, of_decide_eq_true h0⟩, h1, h2, h3, h4, h5, hT (of_decide_eq_true h0) (by unfold seg1; refine decide_eq_true ?_; simp only [decide_eq_true_eq, decide_eq_false_iff_not, beq_iff_eq, beq_eq_false_iff_ne, ne_eq, Bool.not_eq_true', Bool.not_eq_false'] at h0 h1 h2 h3 h4 h5; omega)⟩)
            | false =>
              exact Obl.goal (K := Goal P 0 20 _) mix (fun _ h => h) (cast (sgyynnnn (fun v => R v) p i G _).symm ⟨h0, ⟨hi, of_decide_eq_true h0⟩, h1, h2, h3, h4, h5, hF (of_decide_eq_true h0) (by unfold seg1; refine decide_eq_false ?_; simp only [decide_eq_true_eq, decide_eq_false_iff_not, beq_iff_eq, beq_eq_false_iff_ne, ne_eq, Bool.not_eq_true', Bool.not_eq_false'] at h0 h1 h2 h3 h4 h5; omega)⟩)
    | false =>
      cases h2 : (decide ((48 : Int) ≤ (↑(p.getD i.toNat (0 : UInt8)).toNat : Int))) with
      | true =>
        cases h3 : (decide ((↑(p.getD i.toNat (0 : UInt8)).toNat : Int) ≤ (57 : Int))) with
        | true =>
          exact Obl.goal (K := Goal P 0 20 _) mix (fun _ h => h) (cast (sgynyy (fun v => R v) p i G _).symm ⟨h0, ⟨hi, of_decide_eq_true h0⟩, h1, h2, h3, hT (of_decide_eq_true h0) (by unfold seg1; refine decide_eq_true ?_; simp only [decide_eq_true_eq, decide_eq_false_iff_not, beq_iff_eq, beq_eq_false_iff_ne, ne_eq, Bool.not_eq_true', Bool.not_eq_false'] at h0 h1 h2 h3; omega)⟩)
        | false =>
          cases h4 : (((↑(p.getD i.toNat (0 : UInt8)).toNat : Int) == (95 : Int))) with
          | true =>
            exact Obl.goal (K := Goal P 0 20 _) mix (fun _ h => h) (cast (sgynyny (fun v => R v) p i G _).symm ⟨h0, ⟨hi, of_decide_eq_true h0⟩, h1, h2, h3, h4, hT (of_decide_eq_true h0) (by unfold seg1; refine decide_eq_true ?_; simp only [decide_eq_true_eq, decide_eq_false_iff_not, beq_iff_eq, beq_eq_false_iff_ne, ne_eq, Bool.not_eq_true', Bool.not_eq_false'] at h0 h1 h2 h3 h4; omega)⟩)
          | false =>
            cases h5 : (((↑(p.getD i.toNat (0 : UInt8)).toNat : Int) == (45 : Int))) with
            | true =>
              exact Obl.goal (K := Goal P 0 20 _) mix (fun _ h => h) (cast (sgynynny (fun v => R v) p i G _).symm ⟨h0, ⟨hi, of_decide_eq_true h0⟩, h1, h2, h3, h4, h5, hT (of_decide_eq_true h0) (by unfold seg1; refine decide_eq_true ?_; simp only [decide_eq_true_eq, decide_eq_false_iff_not, beq_iff_eq, beq_eq_false_iff_ne, ne_eq, Bool.not_eq_true', Bool.not_eq_false'] at h0 h1 h2 h3 h4 h5; omega)⟩)
            | false =>
              exact Obl.goal (K := Goal P 0 20 _) mix (fun _ h => h) (cast (sgynynnn (fun v => R v) p i G _).symm ⟨h0, ⟨hi, of_decide_eq_true h0⟩, h1, h2, h3, h4, h5, hF (of_decide_eq_true h0) (by unfold seg1; refine decide_eq_false ?_; simp only [decide_eq_true_eq, decide_eq_false_iff_not, beq_iff_eq, beq_eq_false_iff_ne, ne_eq, Bool.not_eq_true', Bool.not_eq_false'] at h0 h1 h2 h3 h4 h5; omega)⟩)
      | false =>
        cases h3 : (((↑(p.getD i.toNat (0 : UInt8)).toNat : Int) == (95 : Int))) with
        | true =>
          exact Obl.goal (K := Goal P 0 20 _) mix (fun _ h => h) (cast (sgynny (fun v => R v) p i G _).symm ⟨h0, ⟨hi, of_decide_eq_true h0⟩, h1, h2, h3, hT (of_decide_eq_true h0) (by unfold seg1; refine decide_eq_true ?_; simp only [decide_eq_true_eq, decide_eq_false_iff_not, beq_iff_eq, beq_eq_false_iff_ne, ne_eq, Bool.not_eq_true', Bool.not_eq_false'] at h0 h1 h2 h3; omega)⟩)
        | false =>
          cases h4 : (((↑(p.getD i.toNat (0 : UInt8)).toNat : Int) == (45 : Int))) with
          | true =>
            exact Obl.goal (K := Goal P 0 20 _) mix (fun _ h => h) (cast (sgynnny (fun v => R v) p i G _).symm ⟨h0, ⟨hi, of_decide_eq_true h0⟩, h1, h2, h3, h4, hT (of_decide_eq_true h0) (by unfold seg1; refine decide_eq_true ?_; simp only [decide_eq_true_eq, decide_eq_false_iff_not, beq_iff_eq, beq_eq_false_iff_ne, ne_eq, Bool.not_eq_true', Bool.not_eq_false'] at h0 h1 h2 h3 h4; omega)⟩)
          | false =>
            exact Obl.goal (K := Goal P 0 20 _) mix (fun _ h => h) (cast (sgynnnn (fun v => R v) p i G _).symm ⟨h0, ⟨hi, of_decide_eq_true h0⟩, h1, h2, h3, h4, hF (of_decide_eq_true h0) (by unfold seg1; refine decide_eq_false ?_; simp only [decide_eq_true_eq, decide_eq_false_iff_not, beq_iff_eq, beq_eq_false_iff_ne, ne_eq, Bool.not_eq_true', Bool.not_eq_false'] at h0 h1 h2 h3 h4; omega)⟩)
  | false =>
    exact Obl.goal (K := Goal P 0 20 _) mix (fun _ h => h) (cast (sgn (fun v => R v) p i G _).symm ⟨h0, hE (of_decide_eq_false h0)⟩)

theorem rsyyy (R : AV → Prop) (p : List UInt8) (i : Int) (G : T (T AV)) (K : AM → Prop) : Obl P 17 (fun v _ => R v) 0 K [.run 8, .know 16 true, .run 8, .op, .run 7, .know 24 true, .run 4, .know 28 true, .run 26, .can 0 [] [0, 3] []] ((Rs p i G)) = ((decide (i < (↑p.length : Int)) = true) ∧ ((0 : Int) ≤ i ∧ i < (↑p.length : Int)) ∧ (decide ((↑(p.getD i.toNat (0 : UInt8)).toNat : Int) ≥ (97 : Int)) = true) ∧ (decide ((↑(p.getD i.toNat (0 : UInt8)).toNat : Int) ≤ (122 : Int)) = true) ∧ K (Rs p (IntKind.i64.wrap (i + (1 : Int))) G)) := by kernel_rfl

theorem rsyynyy (R : AV → Prop) (p : List UInt8) (i : Int) (G : T (T AV)) (K : AM → Prop) : Obl P 17 (fun v _ => R v) 0 K [.run 8, .know 16 true, .run 8, .op, .run 7, .know 24 true, .run 4, .know 28 false, .run 3, .know 31 true, .run 5, .know 36 true, .run 18, .can 0 [] [0, 3] []] ((Rs p i G)) = ((decide (i < (↑p.length : Int)) = true) ∧ ((0 : Int) ≤ i ∧ i < (↑p.length : Int)) ∧ (decide ((↑(p.getD i.toNat (0 : UInt8)).toNat : Int) ≥ (97 : Int)) = true) ∧ (decide ((↑(p.getD i.toNat (0 : UInt8)).toNat : Int) ≤ (122 : Int)) = false) ∧ (decide ((↑(p.getD i.toNat (0 : UInt8)).toNat : Int) ≥ (48 : Int)) = true) ∧ (decide ((↑(p.getD i.toNat (0 : UInt8)).toNat : Int) ≤ (57 : Int)) = true) ∧ K (Rs p (IntKind.i64.wrap (i + (1 : Int))) G)) := by kernel_rfl

theorem rsyynyny (R : AV → Prop) (p : List UInt8) (i : Int) (G : T (T AV)) (K : AM → Prop) : Obl P 17 (fun v _ => R v) 0 K [.run 8, .know 16 true, .run 8, .op, .run 7, .know 24 true, .run 4, .know 28 false, .run 3, .know 31 true, .run 5, .know 36 false, .run 4, .know 40 true, .run 14, .can 0 [] [0, 3] []] ((Rs p i G)) = ((decide (i < (↑p.length : Int)) = true) ∧ ((0 : Int) ≤ i ∧ i < (↑p.length : Int)) ∧ (decide ((↑(p.getD i.toNat (0 : UInt8)).toNat : Int) ≥ (97 : Int)) = true) ∧ (decide ((↑(p.getD i.toNat (0 : UInt8)).toNat : Int) ≤ (122 : Int)) = false) ∧ (decide ((↑(p.getD i.toNat (0 : UInt8)).toNat : Int) ≥ (48 : Int)) = true) ∧ (decide ((↑(p.getD i.toNat (0 : UInt8)).toNat : Int) ≤ (57 : Int)) = false) ∧ (((↑(p.getD i.toNat (0 : UInt8)).toNat : Int) == (95 : Int)) = true) ∧ K (Rs p (IntKind.i64.wrap (i + (1 : Int))) G)) := by kernel_rfl

theorem rsyynynny (R : AV → Prop) (p : List UInt8) (i : Int) (G : T (T AV)) (_K : AM → Prop) : Obl P 17 (fun v _ => R v) 0 _K [.run 8, .know 16 true, .run 8, .op, .run 7, .know 24 true, .run 4, .know 28 false, .run 3, .know 31 true, .run 5, .know 36 false, .run 4, .know 40 false, .run 5, .know 44 true, .run 6, .done] ((Rs p i G)) = ((decide (i < (↑p.length : Int)) = true) ∧ ((0 : Int) ≤ i ∧ i < (↑p.length : Int)) ∧ (decide ((↑(p.getD i.toNat (0 : UInt8)).toNat : Int) ≥ (97 : Int)) = true) ∧ (decide ((↑(p.getD i.toNat (0 : UInt8)).toNat : Int) ≤ (122 : Int)) = false) ∧ (decide ((↑(p.getD i.toNat (0 : UInt8)).toNat : Int) ≥ (48 : Int)) = true) ∧ (decide ((↑(p.getD i.toNat (0 : UInt8)).toNat : Int) ≤ (57 : Int)) = false) ∧ (((↑(p.getD i.toNat (0 : UInt8)).toNat : Int) == (95 : Int)) = false) ∧ ((!(↑(p.getD i.toNat (0 : UInt8)).toNat : Int) == (45 : Int)) = true) ∧ (R (.bool false))) := by kernel_rfl

theorem rsyynynnn (R : AV → Prop) (p : List UInt8) (i : Int) (G : T (T AV)) (K : AM → Prop) : Obl P 17 (fun v _ => R v) 0 K [.run 8, .know 16 true, .run 8, .op, .run 7, .know 24 true, .run 4, .know 28 false, .run 3, .know 31 true, .run 5, .know 36 false, .run 4, .know 40 false, .run 5, .know 44 false, .run 9, .can 0 [] [0, 3] []] ((Rs p i G)) = ((decide (i < (↑p.length : Int)) = true) ∧ ((0 : Int) ≤ i ∧ i < (↑p.length : Int)) ∧ (decide ((↑(p.getD i.toNat (0 : UInt8)).toNat : Int) ≥ (97 : Int)) = true) ∧ (decide ((↑(p.getD i.toNat (0 : UInt8)).toNat : Int) ≤ (122 : Int)) = false) ∧ (decide ((↑(p.getD i.toNat (0 : UInt8)).toNat : Int) ≥ (48 : Int)) = true) ∧ (decide ((↑(p.getD i.toNat (0 : UInt8)).toNat : Int) ≤ (57 : Int)) = false) ∧ (((↑(p.getD i.toNat (0 : UInt8)).toNat : Int) == (95 : Int)) = false) ∧ ((!(↑(p.getD i.toNat (0 : UInt8)).toNat : Int) == (45 : Int)) = false) ∧ K (Rs p (IntKind.i64.wrap (i + (1 : Int))) G)) := by kernel_rfl

theorem rsyynny (R : AV → Prop) (p : List UInt8) (i : Int) (G : T (T AV)) (K : AM → Prop) : Obl P 17 (fun v _ => R v) 0 K [.run 8, .know 16 true, .run 8, .op, .run 7, .know 24 true, .run 4, .know 28 false, .run 3, .know 31 false, .run 9, .know 40 true, .run 14, .can 0 [] [0, 3] []] ((Rs p i G)) = ((decide (i < (↑p.length : Int)) = true) ∧ ((0 : Int) ≤ i ∧ i < (↑p.length : Int)) ∧ (decide ((↑(p.getD i.toNat (0 : UInt8)).toNat : Int) ≥ (97 : Int)) = true) ∧ (decide ((↑(p.getD i.toNat (0 : UInt8)).toNat : Int) ≤ (122 : Int)) = false) ∧ (decide ((↑(p.getD i.toNat (0 : UInt8)).toNat : Int) ≥ (48 : Int)) = false) ∧ (((↑(p.getD i.toNat (0 : UInt8)).toNat : Int) == (95 : Int)) = true) ∧ K (Rs p (IntKind.i64.wrap (i + (1 : Int))) G)) := by kernel_rfl

theorem rsyynnny (R : AV → Prop) (p : List UInt8) (i : Int) (G : T (T AV)) (_K : AM → Prop) : Obl P 17 (fun v _ => R v) 0 _K [.run 8, .know 16 true, .run 8, .op, .run 7, .know 24 true, .run 4, .know 28 false, .run 3, .know 31 false, .run 9, .know 40 false, .run 5, .know 44 true, .run 6, .done] ((Rs p i G)) = ((decide (i < (↑p.length : Int)) = true) ∧ ((0 : Int) ≤ i ∧ i < (↑p.length : Int)) ∧ (decide ((↑(p.getD i.toNat (0 : UInt8)).toNat : Int) ≥ (97 : Int)) = true) ∧ (decide ((↑(p.getD i.toNat (0 : UInt8)).toNat : Int) ≤ (122 : Int)) = false) ∧ (decide ((↑(p.getD i.toNat (0 : UInt8)).toNat : Int) ≥ (48 : Int)) = false) ∧ (((↑(p.getD i.toNat (0 : UInt8)).toNat : Int) == (95 : Int)) = false) ∧ ((!(↑(p.getD i.toNat (0 : UInt8)).toNat : Int) == (45 : Int)) = true) ∧ (R (.bool false))) := by kernel_rfl

theorem rsyynnnn (R : AV → Prop) (p : List UInt8) (i : Int) (G : T (T AV)) (K : AM → Prop) : Obl P 17 (fun v _ => R v) 0 K [.run 8, .know 16 true, .run 8, .op, .run 7, .know 24 true, .run 4, .know 28 false, .run 3, .know 31 false, .run 9, .know 40 false, .run 5, .know 44 false, .run 9, .can 0 [] [0, 3] []] ((Rs p i G)) = ((decide (i < (↑p.length : Int)) = true) ∧ ((0 : Int) ≤ i ∧ i < (↑p.length : Int)) ∧ (decide ((↑(p.getD i.toNat (0 : UInt8)).toNat : Int) ≥ (97 : Int)) = true) ∧ (decide ((↑(p.getD i.toNat (0 : UInt8)).toNat : Int) ≤ (122 : Int)) = false) ∧ (decide ((↑(p.getD i.toNat (0 : UInt8)).toNat : Int) ≥ (48 : Int)) = false) ∧ (((↑(p.getD i.toNat (0 : UInt8)).toNat : Int) == (95 : Int)) = false) ∧ ((!(↑(p.getD i.toNat (0 : UInt8)).toNat : Int) == (45 : Int)) = false) ∧ K (Rs p (IntKind.i64.wrap (i + (1 : Int))) G)) := by kernel_rfl

theorem rsynyy (R : AV → Prop) (p : List UInt8) (i : Int) (G : T (T AV)) (K : AM → Prop) : Obl P 17 (fun v _ => R v) 0 K [.run 8, .know 16 true, .run 8, .op, .run 7, .know 24 false, .run 7, .know 31 true, .run 5, .know 36 true, .run 18, .can 0 [] [0, 3] []] ((Rs p i G)) = ((decide (i < (↑p.length : Int)) = true) ∧ ((0 : Int) ≤ i ∧ i < (↑p.length : Int)) ∧ (decide ((↑(p.getD i.toNat (0 : UInt8)).toNat : Int) ≥ (97 : Int)) = false) ∧ (decide ((↑(p.getD i.toNat (0 : UInt8)).toNat : Int) ≥ (48 : Int)) = true) ∧ (decide ((↑(p.getD i.toNat (0 : UInt8)).toNat : Int) ≤ (57 : Int)) = true) ∧ K (Rs p (IntKind.i64.wrap (i + (1 : Int))) G)) := by kernel_rfl

theorem rsynyny (R : AV → Prop) (p : List UInt8) (i : Int) (G : T (T AV)) (K : AM → Prop) : Obl P 17 (fun v _ => R v) 0 K [.run 8, .know 16 true, .run 8, .op, .run 7, .know 24 false, .run 7, .know 31 true, .run 5, .know 36 false, .run 4, .know 40 true, .run 14, .can 0 [] [0, 3] []] ((Rs p i G)) = ((decide (i < (↑p.length : Int)) = true) ∧ ((0 : Int) ≤ i ∧ i < (↑p.length : Int)) ∧ (decide ((↑(p.getD i.toNat (0 : UInt8)).toNat : Int) ≥ (97 : Int)) = false) ∧ (decide ((↑(p.getD i.toNat (0 : UInt8)).toNat : Int) ≥ (48 : Int)) = true) ∧ (decide ((↑(p.getD i.toNat (0 : UInt8)).toNat : Int) ≤ (57 : Int)) = false) ∧ (((↑(p.getD i.toNat (0 : UInt8)).toNat : Int) == (95 : Int)) = true) ∧ K (Rs p (IntKind.i64.wrap (i + (1 : Int))) G)) := by kernel_rfl

theorem rsynynny (R : AV → Prop) (p : List UInt8) (i : Int) (G : T (T AV)) (_K : AM → Prop) : Obl P 17 (fun v _ => R v) 0 _K [.run 8, .know 16 true, .run 8, .op, .run 7, .know 24 false, .run 7, .know 31 true, .run 5, .know 36 false, .run 4, .know 40 false, .run 5, .know 44 true, .run 6, .done] ((Rs p i G)) = ((decide (i < (↑p.length : Int)) = true) ∧ ((0 : Int) ≤ i ∧ i < (↑p.length : Int)) ∧ (decide ((↑(p.getD i.toNat (0 : UInt8)).toNat : Int) ≥ (97 : Int)) = false) ∧ (decide ((↑(p.getD i.toNat (0 : UInt8)).toNat : Int) ≥ (48 : Int)) = true) ∧ (decide ((↑(p.getD i.toNat (0 : UInt8)).toNat : Int) ≤ (57 : Int)) = false) ∧ (((↑(p.getD i.toNat (0 : UInt8)).toNat : Int) == (95 : Int)) = false) ∧ ((!(↑(p.getD i.toNat (0 : UInt8)).toNat : Int) == (45 : Int)) = true) ∧ (R (.bool false))) := by kernel_rfl

theorem rsynynnn (R : AV → Prop) (p : List UInt8) (i : Int) (G : T (T AV)) (K : AM → Prop) : Obl P 17 (fun v _ => R v) 0 K [.run 8, .know 16 true, .run 8, .op, .run 7, .know 24 false, .run 7, .know 31 true, .run 5, .know 36 false, .run 4, .know 40 false, .run 5, .know 44 false, .run 9, .can 0 [] [0, 3] []] ((Rs p i G)) = ((decide (i < (↑p.length : Int)) = true) ∧ ((0 : Int) ≤ i ∧ i < (↑p.length : Int)) ∧ (decide ((↑(p.getD i.toNat (0 : UInt8)).toNat : Int) ≥ (97 : Int)) = false) ∧ (decide ((↑(p.getD i.toNat (0 : UInt8)).toNat : Int) ≥ (48 : Int)) = true) ∧ (decide ((↑(p.getD i.toNat (0 : UInt8)).toNat : Int) ≤ (57 : Int)) = false) ∧ (((↑(p.getD i.toNat (0 : UInt8)).toNat : Int) == (95 : Int)) = false) ∧ ((!(↑(p.getD i.toNat (0 : UInt8)).toNat : Int) == (45 : Int)) = false) ∧ K (Rs p (IntKind.i64.wrap (i + (1 : Int))) G)) := by kernel_rfl

theorem rsynny (R : AV → Prop) (p : List UInt8) (i : Int) (G : T (T AV)) (K : AM → Prop) : Obl P 17 (fun v _ => R v) 0 K [.run 8, .know 16 true, .run 8, .op, .run 7, .know 24 false, .run 7, .know 31 false, .run 9, .know 40 true, .run 14, .can 0 [] [0, 3] []] ((Rs p i G)) = ((decide (i < (↑p.length : Int)) = true) ∧ ((0 : Int) ≤ i ∧ i < (↑p.length : Int)) ∧ (decide ((↑(p.getD i.toNat (0 : UInt8)).toNat : Int) ≥ (97 : Int)) = false) ∧ (decide ((↑(p.getD i.toNat (0 : UInt8)).toNat : Int) ≥ (48 : Int)) = false) ∧ (((↑(p.getD i.toNat (0 : UInt8)).toNat : Int) == (95 : Int)) = true) ∧ K (Rs p (IntKind.i64.wrap (i + (1 : Int))) G)) := by kernel_rfl

theorem rsynnny (R : AV → Prop) (p : List UInt8) (i : Int) (G : T (T AV)) (_K : AM → Prop) : Obl P 17 (fun v _ => R v) 0 _K [.run 8, .know 16 true, .run 8, .op, .run 7, .know 24 false, .run 7, .know 31 false, .run 9, .know 40 false, .run 5, .know 44 true, .run 6, .done] ((Rs p i G)) = ((decide (i < (↑p.length : Int)) = true) ∧ ((0 : Int) ≤ i ∧ i < (↑p.length : Int)) ∧ (decide ((↑(p.getD i.toNat (0 : UInt8)).toNat : Int) ≥ (97 : Int)) = false) ∧ (decide ((↑(p.getD i.toNat (0 : UInt8)).toNat : Int) ≥ (48 : Int)) = false) ∧ (((↑(p.getD i.toNat (0 : UInt8)).toNat : Int) == (95 : Int)) = false) ∧ ((!(↑(p.getD i.toNat (0 : UInt8)).toNat : Int) == (45 : Int)) = true) ∧ (R (.bool false))) := by kernel_rfl

theorem rsynnnn (R : AV → Prop) (p : List UInt8) (i : Int) (G : T (T AV)) (K : AM → Prop) : Obl P 17 (fun v _ => R v) 0 K [.run 8, .know 16 true, .run 8, .op, .run 7, .know 24 false, .run 7, .know 31 false, .run 9, .know 40 false, .run 5, .know 44 false, .run 9, .can 0 [] [0, 3] []] ((Rs p i G)) = ((decide (i < (↑p.length : Int)) = true) ∧ ((0 : Int) ≤ i ∧ i < (↑p.length : Int)) ∧ (decide ((↑(p.getD i.toNat (0 : UInt8)).toNat : Int) ≥ (97 : Int)) = false) ∧ (decide ((↑(p.getD i.toNat (0 : UInt8)).toNat : Int) ≥ (48 : Int)) = false) ∧ (((↑(p.getD i.toNat (0 : UInt8)).toNat : Int) == (95 : Int)) = false) ∧ ((!(↑(p.getD i.toNat (0 : UInt8)).toNat : Int) == (45 : Int)) = false) ∧ K (Rs p (IntKind.i64.wrap (i + (1 : Int))) G)) := by kernel_rfl

theorem rsn (R : AV → Prop) (p : List UInt8) (i : Int) (G : T (T AV)) (_K : AM → Prop) : Obl P 17 (fun v _ => R v) 0 _K [.run 8, .know 16 false, .run 7, .done] ((Rs p i G)) = ((decide (i < (↑p.length : Int)) = false) ∧ (R (.bool true))) := by kernel_rfl

theorem rsRound {R : AV → Prop} {p : List UInt8} {i : Int} {G : T (T AV)} (hi : 0 ≤ i)
    (hE : ¬ i < (p.length : Int) → R (.bool true)) (hT : i < (p.length : Int) → seg1 (p.getD i.toNat 0).toNat = true → Goal P 0 17 (fun v _ => R v) (Rs p (IntKind.i64.wrap (i + 1)) G)) (hF : i < (p.length : Int) → seg1 (p.getD i.toNat 0).toNat = false → R (.bool false)) : Goal P 0 17 (fun v _ => R v) (Rs p i G) := by
  cases h0 : (decide (i < (↑p.length : Int))) with
  | true =>
    cases h1 : (decide ((↑(p.getD i.toNat (0 : UInt8)).toNat : Int) ≥ (97 : Int))) with
    | true =>
      cases h2 : (decide ((↑(p.getD i.toNat (0 : UInt8)).toNat : Int) ≤ (122 : Int))) with
      | true =>
        exact Obl.goal (K := Goal P 0 17 _) mix (fun _ h => h) (cast (rsyyy (fun v => R v) p i G _).symm ⟨h0, ⟨hi, of_decide_eq_true h0⟩, h1, h2, hT (of_decide_eq_true h0) (by unfold seg1; refine decide_eq_true ?_; simp only [decide_eq_true_eq, decide_eq_false_iff_not, beq_iff_eq, beq_eq_false_iff_ne, ne_eq, Bool.not_eq_true', Bool.not_eq_false'] at h0 h1 h2; omega)⟩)
      | false =>
        cases h3 : (decide ((↑(p.getD i.toNat (0 : UInt8)).toNat : Int) ≥ (48 : Int))) with
        | true =>
          cases h4 : (decide ((↑(p.getD i.toNat (0 : UInt8)).toNat : Int) ≤ (57 : Int))) with
          | true =>
            exact Obl.goal (K := Goal P 0 17 _) mix (fun _ h => h) (cast (rsyynyy (fun v => R v) p i G _).symm ⟨h0, ⟨hi, of_decide_eq_true h0⟩, h1, h2, h3, h4, hT (of_decide_eq_true h0) (by unfold seg1; refine decide_eq_true ?_; simp only [decide_eq_true_eq, decide_eq_false_iff_not, beq_iff_eq, beq_eq_false_iff_ne, ne_eq, Bool.not_eq_true', Bool.not_eq_false'] at h0 h1 h2 h3 h4; omega)⟩)
          | false =>
            cases h5 : (((↑(p.getD i.toNat (0 : UInt8)).toNat : Int) == (95 : Int))) with
            | true =>
              exact Obl.goal (K := Goal P 0 17 _) mix (fun _ h => h) (cast (rsyynyny (fun v => R v) p i G _).symm ⟨h0, ⟨hi, of_decide_eq_true h0⟩, h1, h2, h3, h4, h5, hT (of_decide_eq_true h0) (by unfold seg1; refine decide_eq_true ?_; simp only [decide_eq_true_eq, decide_eq_false_iff_not, beq_iff_eq, beq_eq_false_iff_ne, ne_eq, Bool.not_eq_true', Bool.not_eq_false'] at h0 h1 h2 h3 h4 h5; omega)⟩)
            | false =>
              cases h6 : ((!(↑(p.getD i.toNat (0 : UInt8)).toNat : Int) == (45 : Int))) with
              | true =>
                exact Obl.goal (K := Goal P 0 17 _) mix (fun _ h => h) (cast (rsyynynny (fun v => R v) p i G _).symm ⟨h0, ⟨hi, of_decide_eq_true h0⟩, h1, h2, h3, h4, h5, h6, hF (of_decide_eq_true h0) (by unfold seg1; refine decide_eq_false ?_; simp only [decide_eq_true_eq, decide_eq_false_iff_not, beq_iff_eq, beq_eq_false_iff_ne, ne_eq, Bool.not_eq_true', Bool.not_eq_false'] at h0 h1 h2 h3 h4 h5 h6; omega)⟩)
              | false =>
                exact Obl.goal (K := Goal P 0 17 _) mix (fun _ h => h) (cast (rsyynynnn (fun v => R v) p i G _).symm ⟨h0, ⟨hi, of_decide_eq_true h0⟩, h1, h2, h3, h4, h5, h6, hT (of_decide_eq_true h0) (by unfold seg1; refine decide_eq_true ?_; simp only [decide_eq_true_eq, decide_eq_false_iff_not, beq_iff_eq, beq_eq_false_iff_ne, ne_eq, Bool.not_eq_true', Bool.not_eq_false'] at h0 h1 h2 h3 h4 h5 h6; omega)⟩)
        | false =>
          cases h4 : (((↑(p.getD i.toNat (0 : UInt8)).toNat : Int) == (95 : Int))) with
          | true =>
            exact Obl.goal (K := Goal P 0 17 _) mix (fun _ h => h) (cast (rsyynny (fun v => R v) p i G _).symm ⟨h0, ⟨hi, of_decide_eq_true h0⟩, h1, h2, h3, h4, hT (of_decide_eq_true h0) (by unfold seg1; refine decide_eq_true ?_; simp only [decide_eq_true_eq, decide_eq_false_iff_not, beq_iff_eq, beq_eq_false_iff_ne, ne_eq, Bool.not_eq_true', Bool.not_eq_false'] at h0 h1 h2 h3 h4; omega)⟩)
          | false =>
            cases h5 : ((!(↑(p.getD i.toNat (0 : UInt8)).toNat : Int) == (45 : Int))) with
            | true =>
              exact Obl.goal (K := Goal P 0 17 _) mix (fun _ h => h) (cast (rsyynnny (fun v => R v) p i G _).symm ⟨h0, ⟨hi, of_decide_eq_true h0⟩, h1, h2, h3, h4, h5, hF (of_decide_eq_true h0) (by unfold seg1; refine decide_eq_false ?_; simp only [decide_eq_true_eq, decide_eq_false_iff_not, beq_iff_eq, beq_eq_false_iff_ne, ne_eq, Bool.not_eq_true', Bool.not_eq_false'] at h0 h1 h2 h3 h4 h5; omega)⟩)
            | false =>
              exact Obl.goal (K := Goal P 0 17 _) mix (fun _ h => h) (cast (rsyynnnn (fun v => R v) p i G _).symm ⟨h0, ⟨hi, of_decide_eq_true h0⟩, h1, h2, h3, h4, h5, hT (of_decide_eq_true h0) (by unfold seg1; refine decide_eq_true ?_; simp only [decide_eq_true_eq, decide_eq_false_iff_not, beq_iff_eq, beq_eq_false_iff_ne, ne_eq, Bool.not_eq_true', Bool.not_eq_false'] at h0 h1 h2 h3 h4 h5; omega)⟩)
    | false =>
      cases h2 : (decide ((↑(p.getD i.toNat (0 : UInt8)).toNat : Int) ≥ (48 : Int))) with
      | true =>
        cases h3 : (decide ((↑(p.getD i.toNat (0 : UInt8)).toNat : Int) ≤ (57 : Int))) with
        | true =>
          exact Obl.goal (K := Goal P 0 17 _) mix (fun _ h => h) (cast (rsynyy (fun v => R v) p i G _).symm ⟨h0, ⟨hi, of_decide_eq_true h0⟩, h1, h2, h3, hT (of_decide_eq_true h0) (by unfold seg1; refine decide_eq_true ?_; simp only [decide_eq_true_eq, decide_eq_false_iff_not, beq_iff_eq, beq_eq_false_iff_ne, ne_eq, Bool.not_eq_true', Bool.not_eq_false'] at h0 h1 h2 h3; omega)⟩)
        | false =>
          cases h4 : (((↑(p.getD i.toNat (0 : UInt8)).toNat : Int) == (95 : Int))) with
          | true =>
            exact Obl.goal (K := Goal P 0 17 _) mix (fun _ h => h) (cast (rsynyny (fun v => R v) p i G _).symm ⟨h0, ⟨hi, of_decide_eq_true h0⟩, h1, h2, h3, h4, hT (of_decide_eq_true h0) (by unfold seg1; refine decide_eq_true ?_; simp only [decide_eq_true_eq, decide_eq_false_iff_not, beq_iff_eq, beq_eq_false_iff_ne, ne_eq, Bool.not_eq_true', Bool.not_eq_false'] at h0 h1 h2 h3 h4; omega)⟩)
          | false =>
            cases h5 : ((!(↑(p.getD i.toNat (0 : UInt8)).toNat : Int) == (45 : Int))) with
            | true =>
              exact Obl.goal (K := Goal P 0 17 _) mix (fun _ h => h) (cast (rsynynny (fun v => R v) p i G _).symm ⟨h0, ⟨hi, of_decide_eq_true h0⟩, h1, h2, h3, h4, h5, hF (of_decide_eq_true h0) (by unfold seg1; refine decide_eq_false ?_; simp only [decide_eq_true_eq, decide_eq_false_iff_not, beq_iff_eq, beq_eq_false_iff_ne, ne_eq, Bool.not_eq_true', Bool.not_eq_false'] at h0 h1 h2 h3 h4 h5; omega)⟩)
            | false =>
              exact Obl.goal (K := Goal P 0 17 _) mix (fun _ h => h) (cast (rsynynnn (fun v => R v) p i G _).symm ⟨h0, ⟨hi, of_decide_eq_true h0⟩, h1, h2, h3, h4, h5, hT (of_decide_eq_true h0) (by unfold seg1; refine decide_eq_true ?_; simp only [decide_eq_true_eq, decide_eq_false_iff_not, beq_iff_eq, beq_eq_false_iff_ne, ne_eq, Bool.not_eq_true', Bool.not_eq_false'] at h0 h1 h2 h3 h4 h5; omega)⟩)
      | false =>
        cases h3 : (((↑(p.getD i.toNat (0 : UInt8)).toNat : Int) == (95 : Int))) with
        | true =>
          exact Obl.goal (K := Goal P 0 17 _) mix (fun _ h => h) (cast (rsynny (fun v => R v) p i G _).symm ⟨h0, ⟨hi, of_decide_eq_true h0⟩, h1, h2, h3, hT (of_decide_eq_true h0) (by unfold seg1; refine decide_eq_true ?_; simp only [decide_eq_true_eq, decide_eq_false_iff_not, beq_iff_eq, beq_eq_false_iff_ne, ne_eq, Bool.not_eq_true', Bool.not_eq_false'] at h0 h1 h2 h3; omega)⟩)
        | false =>
          cases h4 : ((!(↑(p.getD i.toNat (0 : UInt8)).toNat : Int) == (45 : Int))) with
          | true =>
            exact Obl.goal (K := Goal P 0 17 _) mix (fun _ h => h) (cast (rsynnny (fun v => R v) p i G _).symm ⟨h0, ⟨hi, of_decide_eq_true h0⟩, h1, h2, h3, h4, hF (of_decide_eq_true h0) (by unfold seg1; refine decide_eq_false ?_; simp only [decide_eq_true_eq, decide_eq_false_iff_not, beq_iff_eq, beq_eq_false_iff_ne, ne_eq, Bool.not_eq_true', Bool.not_eq_false'] at h0 h1 h2 h3 h4; omega)⟩)
          | false =>
            exact Obl.goal (K := Goal P 0 17 _) mix (fun _ h => h) (cast (rsynnnn (fun v => R v) p i G _).symm ⟨h0, ⟨hi, of_decide_eq_true h0⟩, h1, h2, h3, h4, hT (of_decide_eq_true h0) (by unfold seg1; refine decide_eq_true ?_; simp only [decide_eq_true_eq, decide_eq_false_iff_not, beq_iff_eq, beq_eq_false_iff_ne, ne_eq, Bool.not_eq_true', Bool.not_eq_false'] at h0 h1 h2 h3 h4; omega)⟩)
  | false =>
    exact Obl.goal (K := Goal P 0 17 _) mix (fun _ h => h) (cast (rsn (fun v => R v) p i G _).symm ⟨h0, hE (of_decide_eq_false h0)⟩)


theorem getD_drop0 {p : List UInt8} {i : Nat} (h : i < p.length) : p.drop i = p.getD i 0 :: p.drop (i + 1) := by
  rw [List.drop_eq_getElem_cons h]
  simp [List.getD, h]

theorem sgLoop {R : AV → Prop} {p : List UInt8} {G : T (T AV)} (hl : p.length ≤ 16) (hR : R (.bool (p.all fun b => seg1 b.toNat))) : ∀ (n i : Nat), i + n = p.length → (p.take i).all (fun b => seg1 b.toNat) = true → Goal P 0 20 (fun v _ => R v) (Sg p i G)
  | n, i, hn, ha => by
    have key : (p.all fun b => seg1 b.toNat) = (p.drop i).all fun b => seg1 b.toNat := by
      conv => lhs; rw [← List.take_append_drop i p, List.all_append, ha, Bool.true_and]
    refine sgRound (by omega) (fun h => ?_) (fun h hs => ?_) (fun h hs => ?_)
    · rw [key, List.drop_eq_nil_of_le (by omega)] at hR
      exact hR
    · rw [wi (by omega)]
      rw [Int.toNat_natCast] at hs
      cases n with
      | zero => omega
      | succ n =>
        refine sgLoop hl hR n (i + 1) (by omega) ?_
        rw [List.take_succ_eq_append_getElem (by omega : i < p.length), List.all_append, ha]
        simp only [List.getD, List.getElem?_eq_getElem (show i < p.length by omega), Option.getD_some] at hs
        simpa using hs
    · rw [Int.toNat_natCast] at hs
      rw [key, getD_drop0 (by omega : i < p.length), List.all_cons, hs] at hR
      exact hR

theorem rsLoop {R : AV → Prop} {p : List UInt8} {G : T (T AV)} (hl : p.length ≤ 16) (hR : R (.bool (p.all fun b => seg1 b.toNat))) : ∀ (n i : Nat), i + n = p.length → (p.take i).all (fun b => seg1 b.toNat) = true → Goal P 0 17 (fun v _ => R v) (Rs p i G)
  | n, i, hn, ha => by
    have key : (p.all fun b => seg1 b.toNat) = (p.drop i).all fun b => seg1 b.toNat := by
      conv => lhs; rw [← List.take_append_drop i p, List.all_append, ha, Bool.true_and]
    refine rsRound (by omega) (fun h => ?_) (fun h hs => ?_) (fun h hs => ?_)
    · rw [key, List.drop_eq_nil_of_le (by omega)] at hR
      exact hR
    · rw [wi (by omega)]
      rw [Int.toNat_natCast] at hs
      cases n with
      | zero => omega
      | succ n =>
        refine rsLoop hl hR n (i + 1) (by omega) ?_
        rw [List.take_succ_eq_append_getElem (by omega : i < p.length), List.all_append, ha]
        simp only [List.getD, List.getElem?_eq_getElem (show i < p.length by omega), Option.getD_some] at hs
        simpa using hs
    · rw [Int.toNat_natCast] at hs
      rw [key, getD_drop0 (by omega : i < p.length), List.all_cons, hs] at hR
      exact hR

theorem b_sgy (R : AV → Prop) (p : List UInt8) (G : T (T AV)) (_K : AM → Prop) : Obl P 20 (fun v _ => R v) 0 _K [.run 11, .know 8 true, .run 11, .done] ((startM P 20 [.str p] G)) = ((decide ((↑p.length : Int) < (1 : Int)) = true) ∧ (R (.bool false))) := by kernel_rfl

theorem b_sgny (R : AV → Prop) (p : List UInt8) (G : T (T AV)) (_K : AM → Prop) : Obl P 20 (fun v _ => R v) 0 _K [.run 11, .know 8 false, .run 5, .know 12 true, .run 6, .done] ((startM P 20 [.str p] G)) = ((decide ((↑p.length : Int) < (1 : Int)) = false) ∧ (decide ((↑p.length : Int) > (16 : Int)) = true) ∧ (R (.bool false))) := by kernel_rfl

theorem b_sgnn_UNLIKE (R : AV → Prop) (p : List UInt8) (G : T (T AV)) (K : AM → Prop) : Obl P 20 (fun v _ => R v) 0 K [.run 11, .know 8 false, .run 5, .know 12 false, .run 11, .can 0 [] [0, 14, 15] []] ((startM P 20 [.str p] G)) = ((decide ((↑p.length : Int) < (1 : Int)) = false) ∧ (decide ((↑p.length : Int) > (16 : Int)) = false) ∧ K (Sg p 0 G)) := by kernel_rfl

theorem segm_ok (p : List UInt8) (G : T (T AV)) : Goal P 0 20 (fun v _ => v = .bool (segm p)) (startM P 20 [.str p] G) := by
  let R : AV → Prop := fun v => v = .bool (segm p)
  by_cases h1 : 1 ≤ p.length
  · by_cases h2 : p.length ≤ 16
    · refine Obl.goal (K := Goal P 0 20 _) mix (fun _ h => h) (cast (b_sgnn_UNLIKE R p G _).symm ⟨decide_eq_false (by omega), decide_eq_false (by omega), ?_⟩)
      refine sgLoop (R := R) h2 ?_ p.length 0 (by omega) rfl
      show AV.bool _ = AV.bool (segm p)
      unfold segm
      rw [decide_eq_true ⟨h1, h2⟩, Bool.true_and]
    · refine Obl.goal (K := Goal P 0 20 _) mix (fun _ h => h) (cast (b_sgny R p G _).symm ⟨decide_eq_false (by omega), decide_eq_true (by omega), ?_⟩)
      show AV.bool _ = AV.bool (segm p)
      unfold segm
      rw [decide_eq_false (fun h => h2 h.2), Bool.false_and]
  · refine Obl.goal (K := Goal P 0 20 _) mix (fun _ h => h) (cast (b_sgy R p G _).symm ⟨decide_eq_true (by omega), ?_⟩)
    show AV.bool _ = AV.bool (segm p)
    unfold segm
    rw [decide_eq_false (fun h => h1 h.1), Bool.false_and]

theorem b_rsgy (R : AV → Prop) (p : List UInt8) (G : T (T AV)) (_K : AM → Prop) : Obl P 17 (fun v _ => R v) 0 _K [.run 11, .know 8 true, .run 11, .done] ((startM P 17 [.str p] G)) = ((decide ((↑p.length : Int) < (1 : Int)) = true) ∧ (R (.bool false))) := by kernel_rfl

theorem b_rsgny (R : AV → Prop) (p : List UInt8) (G : T (T AV)) (_K : AM → Prop) : Obl P 17 (fun v _ => R v) 0 _K [.run 11, .know 8 false, .run 5, .know 12 true, .run 6, .done] ((startM P 17 [.str p] G)) = ((decide ((↑p.length : Int) < (1 : Int)) = false) ∧ (decide ((↑p.length : Int) > (16 : Int)) = true) ∧ (R (.bool false))) := by kernel_rfl

theorem b_rsgnn_UNLIKE (R : AV → Prop) (p : List UInt8) (G : T (T AV)) (K : AM → Prop) : Obl P 17 (fun v _ => R v) 0 K [.run 11, .know 8 false, .run 5, .know 12 false, .run 9, .can 0 [] [0, 3] []] ((startM P 17 [.str p] G)) = ((decide ((↑p.length : Int) < (1 : Int)) = false) ∧ (decide ((↑p.length : Int) > (16 : Int)) = false) ∧ K (Rs p 0 G)) := by kernel_rfl

theorem rsegm_ok (p : List UInt8) (G : T (T AV)) : Goal P 0 17 (fun v _ => v = .bool (segm p)) (startM P 17 [.str p] G) := by
  let R : AV → Prop := fun v => v = .bool (segm p)
  by_cases h1 : 1 ≤ p.length
  · by_cases h2 : p.length ≤ 16
    · refine Obl.goal (K := Goal P 0 17 _) mix (fun _ h => h) (cast (b_rsgnn_UNLIKE R p G _).symm ⟨decide_eq_false (by omega), decide_eq_false (by omega), ?_⟩)
      refine rsLoop (R := R) h2 ?_ p.length 0 (by omega) rfl
      show AV.bool _ = AV.bool (segm p)
      unfold segm
      rw [decide_eq_true ⟨h1, h2⟩, Bool.true_and]
    · refine Obl.goal (K := Goal P 0 17 _) mix (fun _ h => h) (cast (b_rsgny R p G _).symm ⟨decide_eq_false (by omega), decide_eq_true (by omega), ?_⟩)
      show AV.bool _ = AV.bool (segm p)
      unfold segm
      rw [decide_eq_false (fun h => h2 h.2), Bool.false_and]
  · refine Obl.goal (K := Goal P 0 17 _) mix (fun _ h => h) (cast (b_rsgy R p G _).symm ⟨decide_eq_true (by omega), ?_⟩)
    show AV.bool _ = AV.bool (segm p)
    unfold segm
    rw [decide_eq_false (fun h => h1 h.1), Bool.false_and]

end Go.Proofs.Ytdpgaemeapeilaa.pth
