/- The statement LexWords: whatever the word, the call returns true and leaves all that was there as it was: the program says of just those words that they are reserved of which the document does, and the chapter's rows hold. The condition: the package variables that its row lists hold what it lists; the card ties that to the text of the program. -/
import Derived.Test.YtiebebobpmohdaaDoorRows
import Derived.Test.YtiebebobpmohdaaDoorEvZ
import Derived.Test.YtiebebobpmohdaaDoorEvSc
import Derived.Test.YtiebebobpmohdaaDoorLexWordsG
import Derived.Test.YtiebebobpmohdaaDoorCards
import Derived.Test.YtiebebobpmohdaaDoorTie
import Derived.SevenTiedAt
import Derived.WalkKit
import Derived.ProofKit
import Derived.OpenShut
import Derived.ChangeMaps5
import Derived.Deep.Grids
set_option maxRecDepth 100000
namespace Go.Proofs.YtiebebobpmohdaaDoor.lexWords
open Go Go.ChangeShapes Go.WideShapes Go.ChangeAt Go.RowKit Go.ChangeMaps
open Ev

theorem own : ownKnob Tryd.prog.godebug = none := by kernel_rfl

noncomputable abbrev P : Program := Tryd.prog
theorem mix : Tryd.prog.follows .mixedOrders = true := Checked.mixed Tryd.checked

/-- The reserved words. -/
def W : List (List UInt8) := [[105, 109, 112, 111, 114, 116], [97, 115], [116, 121, 112, 101], [108, 101, 116], [102, 117, 110], [102, 110], [105, 102], [116, 104, 101, 110], [101, 108, 115, 101], [105, 110], [97, 110, 100], [111, 114], [110, 111, 116], [114, 111, 108, 108], [117, 110, 114, 111, 108, 108], [116, 114, 117, 101], [102, 97, 108, 115, 101], [110, 105, 108], [105, 110, 116], [98, 111, 111, 108], [115, 116, 114], [97, 110, 121]]

noncomputable def HL (G : T (T AV)) : AHeap := ⟨.node .leaf (some (.map (W.zipIdx.map fun p => ⟨.str p.1, .int .i64 2, p.2⟩) 22)) .leaf, 1, G⟩

def isW (word : List UInt8) : Bool := W.any (word == ·)

theorem find_words {eq : AV → AV → Option Bool} {word : List UInt8} (heq : ∀ s, eq (.str word) (.str s) = some (word == s)) : ∀ (l : List (List UInt8 × Nat)) (i : Nat),
    (∃ j e, findA eq (.str word) (l.map fun p => ⟨.str p.1, .int .i64 2, p.2⟩) i = some (some (j, e)) ∧ e.val = .int .i64 2 ∧ (l.map (·.1)).any (word == ·) = true) ∨
      (findA eq (.str word) (l.map fun p => ⟨.str p.1, .int .i64 2, p.2⟩) i = some none ∧ (l.map (·.1)).any (word == ·) = false)
  | [], i => .inr ⟨rfl, rfl⟩
  | p :: l, i => by
    simp only [List.map_cons, findA, heq, List.any_cons]
    cases hb : (word == p.1) with
    | true => exact .inl ⟨_, _, rfl, rfl, by simp⟩
    | false =>
      simp only [Bool.false_or]
      exact find_words heq l (i + 1)

theorem zip_fst : W.zipIdx.map (·.1) = W := by kernel_rfl

theorem look (G : T (T AV)) (word : List UInt8) : ∃ z, lookupA P (HL G) 25 (.mp 0) (.str word) true = some (.tup [.int .i64 z, .bool (isW word)]) := by
  have h1 : mapOf P 25 = some (9, 3) := by kernel_rfl
  have h2 : keyOk P 9 9 (.str word) = true := by kernel_rfl
  have h3 : entriesOf (HL G) (.mp 0) = some (W.zipIdx.map fun p => ⟨.str p.1, .int .i64 2, p.2⟩) := by kernel_rfl
  have h4 : zeroA P 3 = some (.int .i64 0) := by kernel_rfl
  have h5 : ∀ s, eqA P (HL G) 9 9 (.str word) (.str s) = some (word == s) := fun s => by kernel_rfl
  unfold lookupA findIn isW
  rw [h1]
  simp only [h2, if_true, h3]
  rcases find_words h5 W.zipIdx 0 with ⟨j, e, e1, e2, e3⟩ | ⟨e1, e3⟩
  · rw [zip_fst] at e3
    simp only [e1, e2, e3, okOf]
    exact ⟨2, rfl⟩
  · rw [zip_fst] at e3
    simp only [e1, h4, e3, okOf]
    exact ⟨0, rfl⟩

theorem resE (word : List UInt8) (z : Int) (b : Bool) (R : AV → Prop) (_K : AM → Prop) : Obl P 4 (fun v _ => R v) 0 _K [.run 9798, .can 0 [0] [6, 7] [], .res (.val (.tup [.int .i64 z, .bool b]) (HL glob)), .run 12, .done] (startM P 4 [.str word] glob) =
  ((valE (HL glob) (lookupA P (HL glob) 25 (.mp 0) (.str word) true) = some (.val (.tup [.int .i64 z, .bool b]) (HL glob))) ∧ R (.bool b)) := by kernel_rfl

theorem res_ok (word : List UInt8) : Goal P 0 4 (fun v _ => v = .bool (isW word)) (startM P 4 [.str word] glob) := by
  obtain ⟨z, hz⟩ := look glob word
  exact Obl.goal (K := fun _ => False) mix (fun _ h => h.elim) (cast (resE word z (isW word) (fun v => v = .bool (isW word)) _).symm ⟨by rw [hz]; rfl, rfl⟩)

noncomputable def M (G : T (T AV)) (word : List UInt8) (i : Int) : AM := ⟨⟨5, 18, .node (.node (.node .leaf (some (.slc 0 0 0 22 22)) .leaf) none .leaf) (some (.str word)) (.node (.node .leaf (some (.int .i64 i)) .leaf) none .leaf),
   [.code (cd P (5 : Nat) [(1 : Nat), (1 : Nat), (0 : Nat), (1 : Nat), (0 : Nat), (0 : Nat)]), .inLoop (cd P (5 : Nat) [(1 : Nat), (1 : Nat), (0 : Nat), (1 : Nat), (0 : Nat), (0 : Nat)]), .inBlock 0, .code (cd P (5 : Nat) [(1 : Nat), (1 : Nat), (1 : Nat)])], [], .run, CallKind.normal, none⟩, [], ⟨.node .leaf (some (.cells (storeList .leaf 0 (W.map .str)) 22 9 0 0 1 0 false .leaf)) .leaf, 1, G⟩⟩

theorem start (G : T (T AV)) (word : List UInt8) (R : AV → Prop) (K : AM → Prop) : Obl P 5 (fun v _ => R v) 0 K [.run 16, .can 0 [0] [0, 3, 4] []] (startM P 5 [.str word] G) = K (M G word 0) := by kernel_rfl
theorem last (G : T (T AV)) (word : List UInt8) (R : AV → Prop) (_K : AM → Prop) : Obl P 5 (fun v _ => R v) 0 _K [.run 15, .done] (M G word 22) = R (.bool false) := by kernel_rfl
theorem g22 (G : T (T AV)) (word : List UInt8) : Goal P 0 5 (fun v _ => v = .bool (([] : List (List UInt8)).any (· == word))) (M G word 22) :=
  Obl.goal (K := fun _ => False) mix (fun _ h => h.elim) (cast (last G word (fun v => v = .bool false) _).symm rfl)

theorem f21 (G : T (T AV)) (word : List UInt8) (R : AV → Prop) (K : AM → Prop) : Obl P 5 (fun v _ => R v) 0 K [.run 21, .know 17 false, .run 9, .can 0 [0] [0, 3, 4] []] (M G word 21) = ((([97, 110, 121] == word) = false) ∧ K (M G word 22)) := by kernel_rfl
theorem t21 (G : T (T AV)) (word : List UInt8) (R : AV → Prop) (_K : AM → Prop) : Obl P 5 (fun v _ => R v) 0 _K [.run 21, .know 17 true, .run 6, .done] (M G word 21) = ((([97, 110, 121] == word) = true) ∧ R (.bool true)) := by kernel_rfl
theorem g21 (G : T (T AV)) (word : List UInt8) : Goal P 0 5 (fun v _ => v = .bool (([97, 110, 121] :: ([] : List (List UInt8))).any (· == word))) (M G word 21) := by
  rw [List.any_cons]
  cases h : ([97, 110, 121] == word) with
  | true => exact Obl.goal (K := fun _ => False) mix (fun _ h => h.elim) (cast (t21 G word _ _).symm ⟨h, rfl⟩)
  | false => exact Obl.goal (K := Goal P 0 5 _) mix (fun _ h => h) (cast (f21 G word _ _).symm ⟨h, g22 G word⟩)

theorem f20 (G : T (T AV)) (word : List UInt8) (R : AV → Prop) (K : AM → Prop) : Obl P 5 (fun v _ => R v) 0 K [.run 21, .know 17 false, .run 9, .can 0 [0] [0, 3, 4] []] (M G word 20) = ((([115, 116, 114] == word) = false) ∧ K (M G word 21)) := by kernel_rfl
theorem t20 (G : T (T AV)) (word : List UInt8) (R : AV → Prop) (_K : AM → Prop) : Obl P 5 (fun v _ => R v) 0 _K [.run 21, .know 17 true, .run 6, .done] (M G word 20) = ((([115, 116, 114] == word) = true) ∧ R (.bool true)) := by kernel_rfl
theorem g20 (G : T (T AV)) (word : List UInt8) : Goal P 0 5 (fun v _ => v = .bool (([115, 116, 114] :: ([[97, 110, 121]] : List (List UInt8))).any (· == word))) (M G word 20) := by
  rw [List.any_cons]
  cases h : ([115, 116, 114] == word) with
  | true => exact Obl.goal (K := fun _ => False) mix (fun _ h => h.elim) (cast (t20 G word _ _).symm ⟨h, rfl⟩)
  | false => exact Obl.goal (K := Goal P 0 5 _) mix (fun _ h => h) (cast (f20 G word _ _).symm ⟨h, g21 G word⟩)

theorem f19 (G : T (T AV)) (word : List UInt8) (R : AV → Prop) (K : AM → Prop) : Obl P 5 (fun v _ => R v) 0 K [.run 21, .know 17 false, .run 9, .can 0 [0] [0, 3, 4] []] (M G word 19) = ((([98, 111, 111, 108] == word) = false) ∧ K (M G word 20)) := by kernel_rfl
theorem t19 (G : T (T AV)) (word : List UInt8) (R : AV → Prop) (_K : AM → Prop) : Obl P 5 (fun v _ => R v) 0 _K [.run 21, .know 17 true, .run 6, .done] (M G word 19) = ((([98, 111, 111, 108] == word) = true) ∧ R (.bool true)) := by kernel_rfl
theorem g19 (G : T (T AV)) (word : List UInt8) : Goal P 0 5 (fun v _ => v = .bool (([98, 111, 111, 108] :: ([[115, 116, 114], [97, 110, 121]] : List (List UInt8))).any (· == word))) (M G word 19) := by
  rw [List.any_cons]
  cases h : ([98, 111, 111, 108] == word) with
  | true => exact Obl.goal (K := fun _ => False) mix (fun _ h => h.elim) (cast (t19 G word _ _).symm ⟨h, rfl⟩)
  | false => exact Obl.goal (K := Goal P 0 5 _) mix (fun _ h => h) (cast (f19 G word _ _).symm ⟨h, g20 G word⟩)

theorem f18 (G : T (T AV)) (word : List UInt8) (R : AV → Prop) (K : AM → Prop) : Obl P 5 (fun v _ => R v) 0 K [.run 21, .know 17 false, .run 9, .can 0 [0] [0, 3, 4] []] (M G word 18) = ((([105, 110, 116] == word) = false) ∧ K (M G word 19)) := by kernel_rfl
theorem t18 (G : T (T AV)) (word : List UInt8) (R : AV → Prop) (_K : AM → Prop) : Obl P 5 (fun v _ => R v) 0 _K [.run 21, .know 17 true, .run 6, .done] (M G word 18) = ((([105, 110, 116] == word) = true) ∧ R (.bool true)) := by kernel_rfl
theorem g18 (G : T (T AV)) (word : List UInt8) : Goal P 0 5 (fun v _ => v = .bool (([105, 110, 116] :: ([[98, 111, 111, 108], [115, 116, 114], [97, 110, 121]] : List (List UInt8))).any (· == word))) (M G word 18) := by
  rw [List.any_cons]
  cases h : ([105, 110, 116] == word) with
  | true => exact Obl.goal (K := fun _ => False) mix (fun _ h => h.elim) (cast (t18 G word _ _).symm ⟨h, rfl⟩)
  | false => exact Obl.goal (K := Goal P 0 5 _) mix (fun _ h => h) (cast (f18 G word _ _).symm ⟨h, g19 G word⟩)

theorem f17 (G : T (T AV)) (word : List UInt8) (R : AV → Prop) (K : AM → Prop) : Obl P 5 (fun v _ => R v) 0 K [.run 21, .know 17 false, .run 9, .can 0 [0] [0, 3, 4] []] (M G word 17) = ((([110, 105, 108] == word) = false) ∧ K (M G word 18)) := by kernel_rfl
theorem t17 (G : T (T AV)) (word : List UInt8) (R : AV → Prop) (_K : AM → Prop) : Obl P 5 (fun v _ => R v) 0 _K [.run 21, .know 17 true, .run 6, .done] (M G word 17) = ((([110, 105, 108] == word) = true) ∧ R (.bool true)) := by kernel_rfl
theorem g17 (G : T (T AV)) (word : List UInt8) : Goal P 0 5 (fun v _ => v = .bool (([110, 105, 108] :: ([[105, 110, 116], [98, 111, 111, 108], [115, 116, 114], [97, 110, 121]] : List (List UInt8))).any (· == word))) (M G word 17) := by
  rw [List.any_cons]
  cases h : ([110, 105, 108] == word) with
  | true => exact Obl.goal (K := fun _ => False) mix (fun _ h => h.elim) (cast (t17 G word _ _).symm ⟨h, rfl⟩)
  | false => exact Obl.goal (K := Goal P 0 5 _) mix (fun _ h => h) (cast (f17 G word _ _).symm ⟨h, g18 G word⟩)

theorem f16 (G : T (T AV)) (word : List UInt8) (R : AV → Prop) (K : AM → Prop) : Obl P 5 (fun v _ => R v) 0 K [.run 21, .know 17 false, .run 9, .can 0 [0] [0, 3, 4] []] (M G word 16) = ((([102, 97, 108, 115, 101] == word) = false) ∧ K (M G word 17)) := by kernel_rfl
theorem t16 (G : T (T AV)) (word : List UInt8) (R : AV → Prop) (_K : AM → Prop) : Obl P 5 (fun v _ => R v) 0 _K [.run 21, .know 17 true, .run 6, .done] (M G word 16) = ((([102, 97, 108, 115, 101] == word) = true) ∧ R (.bool true)) := by kernel_rfl
theorem g16 (G : T (T AV)) (word : List UInt8) : Goal P 0 5 (fun v _ => v = .bool (([102, 97, 108, 115, 101] :: ([[110, 105, 108], [105, 110, 116], [98, 111, 111, 108], [115, 116, 114], [97, 110, 121]] : List (List UInt8))).any (· == word))) (M G word 16) := by
  rw [List.any_cons]
  cases h : ([102, 97, 108, 115, 101] == word) with
  | true => exact Obl.goal (K := fun _ => False) mix (fun _ h => h.elim) (cast (t16 G word _ _).symm ⟨h, rfl⟩)
  | false => exact Obl.goal (K := Goal P 0 5 _) mix (fun _ h => h) (cast (f16 G word _ _).symm ⟨h, g17 G word⟩)

theorem f15 (G : T (T AV)) (word : List UInt8) (R : AV → Prop) (K : AM → Prop) : Obl P 5 (fun v _ => R v) 0 K [.run 21, .know 17 false, .run 9, .can 0 [0] [0, 3, 4] []] (M G word 15) = ((([116, 114, 117, 101] == word) = false) ∧ K (M G word 16)) := by kernel_rfl
theorem t15 (G : T (T AV)) (word : List UInt8) (R : AV → Prop) (_K : AM → Prop) : Obl P 5 (fun v _ => R v) 0 _K [.run 21, .know 17 true, .run 6, .done] (M G word 15) = ((([116, 114, 117, 101] == word) = true) ∧ R (.bool true)) := by kernel_rfl
theorem g15 (G : T (T AV)) (word : List UInt8) : Goal P 0 5 (fun v _ => v = .bool (([116, 114, 117, 101] :: ([[102, 97, 108, 115, 101], [110, 105, 108], [105, 110, 116], [98, 111, 111, 108], [115, 116, 114], [97, 110, 121]] : List (List UInt8))).any (· == word))) (M G word 15) := by
  rw [List.any_cons]
  cases h : ([116, 114, 117, 101] == word) with
  | true => exact Obl.goal (K := fun _ => False) mix (fun _ h => h.elim) (cast (t15 G word _ _).symm ⟨h, rfl⟩)
  | false => exact Obl.goal (K := Goal P 0 5 _) mix (fun _ h => h) (cast (f15 G word _ _).symm ⟨h, g16 G word⟩)

theorem f14 (G : T (T AV)) (word : List UInt8) (R : AV → Prop) (K : AM → Prop) : Obl P 5 (fun v _ => R v) 0 K [.run 21, .know 17 false, .run 9, .can 0 [0] [0, 3, 4] []] (M G word 14) = ((([117, 110, 114, 111, 108, 108] == word) = false) ∧ K (M G word 15)) := by kernel_rfl
theorem t14 (G : T (T AV)) (word : List UInt8) (R : AV → Prop) (_K : AM → Prop) : Obl P 5 (fun v _ => R v) 0 _K [.run 21, .know 17 true, .run 6, .done] (M G word 14) = ((([117, 110, 114, 111, 108, 108] == word) = true) ∧ R (.bool true)) := by kernel_rfl
theorem g14 (G : T (T AV)) (word : List UInt8) : Goal P 0 5 (fun v _ => v = .bool (([117, 110, 114, 111, 108, 108] :: ([[116, 114, 117, 101], [102, 97, 108, 115, 101], [110, 105, 108], [105, 110, 116], [98, 111, 111, 108], [115, 116, 114], [97, 110, 121]] : List (List UInt8))).any (· == word))) (M G word 14) := by
  rw [List.any_cons]
  cases h : ([117, 110, 114, 111, 108, 108] == word) with
  | true => exact Obl.goal (K := fun _ => False) mix (fun _ h => h.elim) (cast (t14 G word _ _).symm ⟨h, rfl⟩)
  | false => exact Obl.goal (K := Goal P 0 5 _) mix (fun _ h => h) (cast (f14 G word _ _).symm ⟨h, g15 G word⟩)

theorem f13 (G : T (T AV)) (word : List UInt8) (R : AV → Prop) (K : AM → Prop) : Obl P 5 (fun v _ => R v) 0 K [.run 21, .know 17 false, .run 9, .can 0 [0] [0, 3, 4] []] (M G word 13) = ((([114, 111, 108, 108] == word) = false) ∧ K (M G word 14)) := by kernel_rfl
theorem t13 (G : T (T AV)) (word : List UInt8) (R : AV → Prop) (_K : AM → Prop) : Obl P 5 (fun v _ => R v) 0 _K [.run 21, .know 17 true, .run 6, .done] (M G word 13) = ((([114, 111, 108, 108] == word) = true) ∧ R (.bool true)) := by kernel_rfl
theorem g13 (G : T (T AV)) (word : List UInt8) : Goal P 0 5 (fun v _ => v = .bool (([114, 111, 108, 108] :: ([[117, 110, 114, 111, 108, 108], [116, 114, 117, 101], [102, 97, 108, 115, 101], [110, 105, 108], [105, 110, 116], [98, 111, 111, 108], [115, 116, 114], [97, 110, 121]] : List (List UInt8))).any (· == word))) (M G word 13) := by
  rw [List.any_cons]
  cases h : ([114, 111, 108, 108] == word) with
  | true => exact Obl.goal (K := fun _ => False) mix (fun _ h => h.elim) (cast (t13 G word _ _).symm ⟨h, rfl⟩)
  | false => exact Obl.goal (K := Goal P 0 5 _) mix (fun _ h => h) (cast (f13 G word _ _).symm ⟨h, g14 G word⟩)

theorem f12 (G : T (T AV)) (word : List UInt8) (R : AV → Prop) (K : AM → Prop) : Obl P 5 (fun v _ => R v) 0 K [.run 21, .know 17 false, .run 9, .can 0 [0] [0, 3, 4] []] (M G word 12) = ((([110, 111, 116] == word) = false) ∧ K (M G word 13)) := by kernel_rfl
theorem t12 (G : T (T AV)) (word : List UInt8) (R : AV → Prop) (_K : AM → Prop) : Obl P 5 (fun v _ => R v) 0 _K [.run 21, .know 17 true, .run 6, .done] (M G word 12) = ((([110, 111, 116] == word) = true) ∧ R (.bool true)) := by kernel_rfl
theorem g12 (G : T (T AV)) (word : List UInt8) : Goal P 0 5 (fun v _ => v = .bool (([110, 111, 116] :: ([[114, 111, 108, 108], [117, 110, 114, 111, 108, 108], [116, 114, 117, 101], [102, 97, 108, 115, 101], [110, 105, 108], [105, 110, 116], [98, 111, 111, 108], [115, 116, 114], [97, 110, 121]] : List (List UInt8))).any (· == word))) (M G word 12) := by
  rw [List.any_cons]
  cases h : ([110, 111, 116] == word) with
  | true => exact Obl.goal (K := fun _ => False) mix (fun _ h => h.elim) (cast (t12 G word _ _).symm ⟨h, rfl⟩)
  | false => exact Obl.goal (K := Goal P 0 5 _) mix (fun _ h => h) (cast (f12 G word _ _).symm ⟨h, g13 G word⟩)

theorem f11 (G : T (T AV)) (word : List UInt8) (R : AV → Prop) (K : AM → Prop) : Obl P 5 (fun v _ => R v) 0 K [.run 21, .know 17 false, .run 9, .can 0 [0] [0, 3, 4] []] (M G word 11) = ((([111, 114] == word) = false) ∧ K (M G word 12)) := by kernel_rfl
theorem t11 (G : T (T AV)) (word : List UInt8) (R : AV → Prop) (_K : AM → Prop) : Obl P 5 (fun v _ => R v) 0 _K [.run 21, .know 17 true, .run 6, .done] (M G word 11) = ((([111, 114] == word) = true) ∧ R (.bool true)) := by kernel_rfl
theorem g11 (G : T (T AV)) (word : List UInt8) : Goal P 0 5 (fun v _ => v = .bool (([111, 114] :: ([[110, 111, 116], [114, 111, 108, 108], [117, 110, 114, 111, 108, 108], [116, 114, 117, 101], [102, 97, 108, 115, 101], [110, 105, 108], [105, 110, 116], [98, 111, 111, 108], [115, 116, 114], [97, 110, 121]] : List (List UInt8))).any (· == word))) (M G word 11) := by
  rw [List.any_cons]
  cases h : ([111, 114] == word) with
  | true => exact Obl.goal (K := fun _ => False) mix (fun _ h => h.elim) (cast (t11 G word _ _).symm ⟨h, rfl⟩)
  | false => exact Obl.goal (K := Goal P 0 5 _) mix (fun _ h => h) (cast (f11 G word _ _).symm ⟨h, g12 G word⟩)

theorem f10 (G : T (T AV)) (word : List UInt8) (R : AV → Prop) (K : AM → Prop) : Obl P 5 (fun v _ => R v) 0 K [.run 21, .know 17 false, .run 9, .can 0 [0] [0, 3, 4] []] (M G word 10) = ((([97, 110, 100] == word) = false) ∧ K (M G word 11)) := by kernel_rfl
theorem t10 (G : T (T AV)) (word : List UInt8) (R : AV → Prop) (_K : AM → Prop) : Obl P 5 (fun v _ => R v) 0 _K [.run 21, .know 17 true, .run 6, .done] (M G word 10) = ((([97, 110, 100] == word) = true) ∧ R (.bool true)) := by kernel_rfl
theorem g10 (G : T (T AV)) (word : List UInt8) : Goal P 0 5 (fun v _ => v = .bool (([97, 110, 100] :: ([[111, 114], [110, 111, 116], [114, 111, 108, 108], [117, 110, 114, 111, 108, 108], [116, 114, 117, 101], [102, 97, 108, 115, 101], [110, 105, 108], [105, 110, 116], [98, 111, 111, 108], [115, 116, 114], [97, 110, 121]] : List (List UInt8))).any (· == word))) (M G word 10) := by
  rw [List.any_cons]
  cases h : ([97, 110, 100] == word) with
  | true => exact Obl.goal (K := fun _ => False) mix (fun _ h => h.elim) (cast (t10 G word _ _).symm ⟨h, rfl⟩)
  | false => exact Obl.goal (K := Goal P 0 5 _) mix (fun _ h => h) (cast (f10 G word _ _).symm ⟨h, g11 G word⟩)

theorem f9 (G : T (T AV)) (word : List UInt8) (R : AV → Prop) (K : AM → Prop) : Obl P 5 (fun v _ => R v) 0 K [.run 21, .know 17 false, .run 9, .can 0 [0] [0, 3, 4] []] (M G word 9) = ((([105, 110] == word) = false) ∧ K (M G word 10)) := by kernel_rfl
theorem t9 (G : T (T AV)) (word : List UInt8) (R : AV → Prop) (_K : AM → Prop) : Obl P 5 (fun v _ => R v) 0 _K [.run 21, .know 17 true, .run 6, .done] (M G word 9) = ((([105, 110] == word) = true) ∧ R (.bool true)) := by kernel_rfl
theorem g9 (G : T (T AV)) (word : List UInt8) : Goal P 0 5 (fun v _ => v = .bool (([105, 110] :: ([[97, 110, 100], [111, 114], [110, 111, 116], [114, 111, 108, 108], [117, 110, 114, 111, 108, 108], [116, 114, 117, 101], [102, 97, 108, 115, 101], [110, 105, 108], [105, 110, 116], [98, 111, 111, 108], [115, 116, 114], [97, 110, 121]] : List (List UInt8))).any (· == word))) (M G word 9) := by
  rw [List.any_cons]
  cases h : ([105, 110] == word) with
  | true => exact Obl.goal (K := fun _ => False) mix (fun _ h => h.elim) (cast (t9 G word _ _).symm ⟨h, rfl⟩)
  | false => exact Obl.goal (K := Goal P 0 5 _) mix (fun _ h => h) (cast (f9 G word _ _).symm ⟨h, g10 G word⟩)

theorem f8 (G : T (T AV)) (word : List UInt8) (R : AV → Prop) (K : AM → Prop) : Obl P 5 (fun v _ => R v) 0 K [.run 21, .know 17 false, .run 9, .can 0 [0] [0, 3, 4] []] (M G word 8) = ((([101, 108, 115, 101] == word) = false) ∧ K (M G word 9)) := by kernel_rfl
theorem t8 (G : T (T AV)) (word : List UInt8) (R : AV → Prop) (_K : AM → Prop) : Obl P 5 (fun v _ => R v) 0 _K [.run 21, .know 17 true, .run 6, .done] (M G word 8) = ((([101, 108, 115, 101] == word) = true) ∧ R (.bool true)) := by kernel_rfl
theorem g8 (G : T (T AV)) (word : List UInt8) : Goal P 0 5 (fun v _ => v = .bool (([101, 108, 115, 101] :: ([[105, 110], [97, 110, 100], [111, 114], [110, 111, 116], [114, 111, 108, 108], [117, 110, 114, 111, 108, 108], [116, 114, 117, 101], [102, 97, 108, 115, 101], [110, 105, 108], [105, 110, 116], [98, 111, 111, 108], [115, 116, 114], [97, 110, 121]] : List (List UInt8))).any (· == word))) (M G word 8) := by
  rw [List.any_cons]
  cases h : ([101, 108, 115, 101] == word) with
  | true => exact Obl.goal (K := fun _ => False) mix (fun _ h => h.elim) (cast (t8 G word _ _).symm ⟨h, rfl⟩)
  | false => exact Obl.goal (K := Goal P 0 5 _) mix (fun _ h => h) (cast (f8 G word _ _).symm ⟨h, g9 G word⟩)

theorem f7 (G : T (T AV)) (word : List UInt8) (R : AV → Prop) (K : AM → Prop) : Obl P 5 (fun v _ => R v) 0 K [.run 21, .know 17 false, .run 9, .can 0 [0] [0, 3, 4] []] (M G word 7) = ((([116, 104, 101, 110] == word) = false) ∧ K (M G word 8)) := by kernel_rfl
theorem t7 (G : T (T AV)) (word : List UInt8) (R : AV → Prop) (_K : AM → Prop) : Obl P 5 (fun v _ => R v) 0 _K [.run 21, .know 17 true, .run 6, .done] (M G word 7) = ((([116, 104, 101, 110] == word) = true) ∧ R (.bool true)) := by kernel_rfl
theorem g7 (G : T (T AV)) (word : List UInt8) : Goal P 0 5 (fun v _ => v = .bool (([116, 104, 101, 110] :: ([[101, 108, 115, 101], [105, 110], [97, 110, 100], [111, 114], [110, 111, 116], [114, 111, 108, 108], [117, 110, 114, 111, 108, 108], [116, 114, 117, 101], [102, 97, 108, 115, 101], [110, 105, 108], [105, 110, 116], [98, 111, 111, 108], [115, 116, 114], [97, 110, 121]] : List (List UInt8))).any (· == word))) (M G word 7) := by
  rw [List.any_cons]
  cases h : ([116, 104, 101, 110] == word) with
  | true => exact Obl.goal (K := fun _ => False) mix (fun _ h => h.elim) (cast (t7 G word _ _).symm ⟨h, rfl⟩)
  | false => exact Obl.goal (K := Goal P 0 5 _) mix (fun _ h => h) (cast (f7 G word _ _).symm ⟨h, g8 G word⟩)

theorem f6 (G : T (T AV)) (word : List UInt8) (R : AV → Prop) (K : AM → Prop) : Obl P 5 (fun v _ => R v) 0 K [.run 21, .know 17 false, .run 9, .can 0 [0] [0, 3, 4] []] (M G word 6) = ((([105, 102] == word) = false) ∧ K (M G word 7)) := by kernel_rfl
theorem t6 (G : T (T AV)) (word : List UInt8) (R : AV → Prop) (_K : AM → Prop) : Obl P 5 (fun v _ => R v) 0 _K [.run 21, .know 17 true, .run 6, .done] (M G word 6) = ((([105, 102] == word) = true) ∧ R (.bool true)) := by kernel_rfl
theorem g6 (G : T (T AV)) (word : List UInt8) : Goal P 0 5 (fun v _ => v = .bool (([105, 102] :: ([[116, 104, 101, 110], [101, 108, 115, 101], [105, 110], [97, 110, 100], [111, 114], [110, 111, 116], [114, 111, 108, 108], [117, 110, 114, 111, 108, 108], [116, 114, 117, 101], [102, 97, 108, 115, 101], [110, 105, 108], [105, 110, 116], [98, 111, 111, 108], [115, 116, 114], [97, 110, 121]] : List (List UInt8))).any (· == word))) (M G word 6) := by
  rw [List.any_cons]
  cases h : ([105, 102] == word) with
  | true => exact Obl.goal (K := fun _ => False) mix (fun _ h => h.elim) (cast (t6 G word _ _).symm ⟨h, rfl⟩)
  | false => exact Obl.goal (K := Goal P 0 5 _) mix (fun _ h => h) (cast (f6 G word _ _).symm ⟨h, g7 G word⟩)

theorem f5 (G : T (T AV)) (word : List UInt8) (R : AV → Prop) (K : AM → Prop) : Obl P 5 (fun v _ => R v) 0 K [.run 21, .know 17 false, .run 9, .can 0 [0] [0, 3, 4] []] (M G word 5) = ((([102, 110] == word) = false) ∧ K (M G word 6)) := by kernel_rfl
theorem t5 (G : T (T AV)) (word : List UInt8) (R : AV → Prop) (_K : AM → Prop) : Obl P 5 (fun v _ => R v) 0 _K [.run 21, .know 17 true, .run 6, .done] (M G word 5) = ((([102, 110] == word) = true) ∧ R (.bool true)) := by kernel_rfl
theorem g5 (G : T (T AV)) (word : List UInt8) : Goal P 0 5 (fun v _ => v = .bool (([102, 110] :: ([[105, 102], [116, 104, 101, 110], [101, 108, 115, 101], [105, 110], [97, 110, 100], [111, 114], [110, 111, 116], [114, 111, 108, 108], [117, 110, 114, 111, 108, 108], [116, 114, 117, 101], [102, 97, 108, 115, 101], [110, 105, 108], [105, 110, 116], [98, 111, 111, 108], [115, 116, 114], [97, 110, 121]] : List (List UInt8))).any (· == word))) (M G word 5) := by
  rw [List.any_cons]
  cases h : ([102, 110] == word) with
  | true => exact Obl.goal (K := fun _ => False) mix (fun _ h => h.elim) (cast (t5 G word _ _).symm ⟨h, rfl⟩)
  | false => exact Obl.goal (K := Goal P 0 5 _) mix (fun _ h => h) (cast (f5 G word _ _).symm ⟨h, g6 G word⟩)

theorem f4 (G : T (T AV)) (word : List UInt8) (R : AV → Prop) (K : AM → Prop) : Obl P 5 (fun v _ => R v) 0 K [.run 21, .know 17 false, .run 9, .can 0 [0] [0, 3, 4] []] (M G word 4) = ((([102, 117, 110] == word) = false) ∧ K (M G word 5)) := by kernel_rfl
theorem t4 (G : T (T AV)) (word : List UInt8) (R : AV → Prop) (_K : AM → Prop) : Obl P 5 (fun v _ => R v) 0 _K [.run 21, .know 17 true, .run 6, .done] (M G word 4) = ((([102, 117, 110] == word) = true) ∧ R (.bool true)) := by kernel_rfl
theorem g4 (G : T (T AV)) (word : List UInt8) : Goal P 0 5 (fun v _ => v = .bool (([102, 117, 110] :: ([[102, 110], [105, 102], [116, 104, 101, 110], [101, 108, 115, 101], [105, 110], [97, 110, 100], [111, 114], [110, 111, 116], [114, 111, 108, 108], [117, 110, 114, 111, 108, 108], [116, 114, 117, 101], [102, 97, 108, 115, 101], [110, 105, 108], [105, 110, 116], [98, 111, 111, 108], [115, 116, 114], [97, 110, 121]] : List (List UInt8))).any (· == word))) (M G word 4) := by
  rw [List.any_cons]
  cases h : ([102, 117, 110] == word) with
  | true => exact Obl.goal (K := fun _ => False) mix (fun _ h => h.elim) (cast (t4 G word _ _).symm ⟨h, rfl⟩)
  | false => exact Obl.goal (K := Goal P 0 5 _) mix (fun _ h => h) (cast (f4 G word _ _).symm ⟨h, g5 G word⟩)

theorem f3 (G : T (T AV)) (word : List UInt8) (R : AV → Prop) (K : AM → Prop) : Obl P 5 (fun v _ => R v) 0 K [.run 21, .know 17 false, .run 9, .can 0 [0] [0, 3, 4] []] (M G word 3) = ((([108, 101, 116] == word) = false) ∧ K (M G word 4)) := by kernel_rfl
theorem t3 (G : T (T AV)) (word : List UInt8) (R : AV → Prop) (_K : AM → Prop) : Obl P 5 (fun v _ => R v) 0 _K [.run 21, .know 17 true, .run 6, .done] (M G word 3) = ((([108, 101, 116] == word) = true) ∧ R (.bool true)) := by kernel_rfl
theorem g3 (G : T (T AV)) (word : List UInt8) : Goal P 0 5 (fun v _ => v = .bool (([108, 101, 116] :: ([[102, 117, 110], [102, 110], [105, 102], [116, 104, 101, 110], [101, 108, 115, 101], [105, 110], [97, 110, 100], [111, 114], [110, 111, 116], [114, 111, 108, 108], [117, 110, 114, 111, 108, 108], [116, 114, 117, 101], [102, 97, 108, 115, 101], [110, 105, 108], [105, 110, 116], [98, 111, 111, 108], [115, 116, 114], [97, 110, 121]] : List (List UInt8))).any (· == word))) (M G word 3) := by
  rw [List.any_cons]
  cases h : ([108, 101, 116] == word) with
  | true => exact Obl.goal (K := fun _ => False) mix (fun _ h => h.elim) (cast (t3 G word _ _).symm ⟨h, rfl⟩)
  | false => exact Obl.goal (K := Goal P 0 5 _) mix (fun _ h => h) (cast (f3 G word _ _).symm ⟨h, g4 G word⟩)

theorem f2 (G : T (T AV)) (word : List UInt8) (R : AV → Prop) (K : AM → Prop) : Obl P 5 (fun v _ => R v) 0 K [.run 21, .know 17 false, .run 9, .can 0 [0] [0, 3, 4] []] (M G word 2) = ((([116, 121, 112, 101] == word) = false) ∧ K (M G word 3)) := by kernel_rfl
theorem t2 (G : T (T AV)) (word : List UInt8) (R : AV → Prop) (_K : AM → Prop) : Obl P 5 (fun v _ => R v) 0 _K [.run 21, .know 17 true, .run 6, .done] (M G word 2) = ((([116, 121, 112, 101] == word) = true) ∧ R (.bool true)) := by kernel_rfl
theorem g2 (G : T (T AV)) (word : List UInt8) : Goal P 0 5 (fun v _ => v = .bool (([116, 121, 112, 101] :: ([[108, 101, 116], [102, 117, 110], [102, 110], [105, 102], [116, 104, 101, 110], [101, 108, 115, 101], [105, 110], [97, 110, 100], [111, 114], [110, 111, 116], [114, 111, 108, 108], [117, 110, 114, 111, 108, 108], [116, 114, 117, 101], [102, 97, 108, 115, 101], [110, 105, 108], [105, 110, 116], [98, 111, 111, 108], [115, 116, 114], [97, 110, 121]] : List (List UInt8))).any (· == word))) (M G word 2) := by
  rw [List.any_cons]
  cases h : ([116, 121, 112, 101] == word) with
  | true => exact Obl.goal (K := fun _ => False) mix (fun _ h => h.elim) (cast (t2 G word _ _).symm ⟨h, rfl⟩)
  | false => exact Obl.goal (K := Goal P 0 5 _) mix (fun _ h => h) (cast (f2 G word _ _).symm ⟨h, g3 G word⟩)

theorem f1 (G : T (T AV)) (word : List UInt8) (R : AV → Prop) (K : AM → Prop) : Obl P 5 (fun v _ => R v) 0 K [.run 21, .know 17 false, .run 9, .can 0 [0] [0, 3, 4] []] (M G word 1) = ((([97, 115] == word) = false) ∧ K (M G word 2)) := by kernel_rfl
theorem t1 (G : T (T AV)) (word : List UInt8) (R : AV → Prop) (_K : AM → Prop) : Obl P 5 (fun v _ => R v) 0 _K [.run 21, .know 17 true, .run 6, .done] (M G word 1) = ((([97, 115] == word) = true) ∧ R (.bool true)) := by kernel_rfl
theorem g1 (G : T (T AV)) (word : List UInt8) : Goal P 0 5 (fun v _ => v = .bool (([97, 115] :: ([[116, 121, 112, 101], [108, 101, 116], [102, 117, 110], [102, 110], [105, 102], [116, 104, 101, 110], [101, 108, 115, 101], [105, 110], [97, 110, 100], [111, 114], [110, 111, 116], [114, 111, 108, 108], [117, 110, 114, 111, 108, 108], [116, 114, 117, 101], [102, 97, 108, 115, 101], [110, 105, 108], [105, 110, 116], [98, 111, 111, 108], [115, 116, 114], [97, 110, 121]] : List (List UInt8))).any (· == word))) (M G word 1) := by
  rw [List.any_cons]
  cases h : ([97, 115] == word) with
  | true => exact Obl.goal (K := fun _ => False) mix (fun _ h => h.elim) (cast (t1 G word _ _).symm ⟨h, rfl⟩)
  | false => exact Obl.goal (K := Goal P 0 5 _) mix (fun _ h => h) (cast (f1 G word _ _).symm ⟨h, g2 G word⟩)

theorem f0 (G : T (T AV)) (word : List UInt8) (R : AV → Prop) (K : AM → Prop) : Obl P 5 (fun v _ => R v) 0 K [.run 21, .know 17 false, .run 9, .can 0 [0] [0, 3, 4] []] (M G word 0) = ((([105, 109, 112, 111, 114, 116] == word) = false) ∧ K (M G word 1)) := by kernel_rfl
theorem t0 (G : T (T AV)) (word : List UInt8) (R : AV → Prop) (_K : AM → Prop) : Obl P 5 (fun v _ => R v) 0 _K [.run 21, .know 17 true, .run 6, .done] (M G word 0) = ((([105, 109, 112, 111, 114, 116] == word) = true) ∧ R (.bool true)) := by kernel_rfl
theorem g0 (G : T (T AV)) (word : List UInt8) : Goal P 0 5 (fun v _ => v = .bool (([105, 109, 112, 111, 114, 116] :: ([[97, 115], [116, 121, 112, 101], [108, 101, 116], [102, 117, 110], [102, 110], [105, 102], [116, 104, 101, 110], [101, 108, 115, 101], [105, 110], [97, 110, 100], [111, 114], [110, 111, 116], [114, 111, 108, 108], [117, 110, 114, 111, 108, 108], [116, 114, 117, 101], [102, 97, 108, 115, 101], [110, 105, 108], [105, 110, 116], [98, 111, 111, 108], [115, 116, 114], [97, 110, 121]] : List (List UInt8))).any (· == word))) (M G word 0) := by
  rw [List.any_cons]
  cases h : ([105, 109, 112, 111, 114, 116] == word) with
  | true => exact Obl.goal (K := fun _ => False) mix (fun _ h => h.elim) (cast (t0 G word _ _).symm ⟨h, rfl⟩)
  | false => exact Obl.goal (K := Goal P 0 5 _) mix (fun _ h => h) (cast (f0 G word _ _).symm ⟨h, g1 G word⟩)

theorem ref_ok (G : T (T AV)) (word : List UInt8) : Goal P 0 5 (fun v _ => v = .bool (isW word)) (startM P 5 [.str word] G) := by
  have h : isW word = W.any (· == word) := by
    unfold isW
    exact congrArg (W.any ·) (funext fun x => BEq.comm)
  rw [h]
  exact Obl.goal (K := Goal P 0 5 _) mix (fun _ h => h) (cast (start G word _ _).symm (g0 G word))

theorem ran : runA P 6 33300 (startM P 6 [] glob) = some (.bool true) := by kernel_rfl
theorem works_ok : Goal P 0 6 (fun v _ => v = .bool true) (startM P 6 [] glob) := Goal.ofRun mix ran fun _ => rfl

theorem law (G : T (T AV)) (word : List UInt8) (b c : Bool) (_K : AM → Prop) : optK (startL P 3 [.str word] [] G) (Obl P 3 (fun v _ => v = .bool true) 0 _K [.run 8, .callv [0] (.bool b), .run 2, .callv [0] (.bool c), .run 2, .know 8 true, .run 1, .callv [] (.bool true), .run 4, .done]) =
  ((Goal P 0 4 (fun x _ => x = AV.bool b) (startM P 4 [.str word] G)) ∧ (Goal P 0 5 (fun x _ => x = AV.bool c) (startM P 5 [.str word] G)) ∧ ((b == c) = true) ∧ (Goal P 0 6 (fun x _ => x = AV.bool true) (startM P 6 [] G)) ∧ (AV.bool true = AV.bool true)) := by kernel_rfl

theorem str_rel (R : Bij) (b : ByteArray) : VRel R (.str b.data.toList) (.string b) := by
  show Value.string b = .string ⟨b.data.toList.toArray⟩
  rw [Array.toArray_toList]

theorem walk (a0 : ByteArray) (w : World) (_ : a0.size ≤ maxLen) (hG : Globs glob w) : Calls P 3 #[.string a0] w fun r w' => r = .returned (.bool true) ∧ Old w w' :=
  law_ok (K := Goal P 0 3 _) mix (cast (law glob a0.data.toList (isW a0.data.toList) (isW a0.data.toList) _).symm ⟨res_ok _, ref_ok _ _, beq_self_eq_true _, works_ok, rfl⟩) (fun _ h => h) (vs := [.string a0]) hG (fun _ hx => absurd hx List.not_mem_nil) ⟨_, _, rfl, str_rel _ _, rfl⟩

/-! ### The row's step -/
set_option maxRecDepth 100000 in
theorem lifted (os : Os) (started : os.Started) (H : Type) (enc : TypeId × Value → H) :
    ReturnsInHanded {} Tryd.checked os 3 .any (fun w args => (Rows.lexWordsSpec.pre enc Tryd.prog Tryd.f3 [] false w args ∧ laidMetH Tryd.prog [("math/bits.deBruijn32tab", Rows.laid_math_bits_deBruijn32tab), ("math/bits.deBruijn64tab", Rows.laid_math_bits_deBruijn64tab), ("internal/strconv.uint64pow10", Rows.laid_internal_strconv_uint64pow10), ("unicode/utf8.acceptRanges", Rows.laid_unicode_utf8_acceptRanges), ("strconv.ErrRange", Rows.laid_strconv_ErrRange), ("strconv.ErrSyntax", Rows.laid_strconv_ErrSyntax), ("unicode.White_Space", Rows.laid_unicode_White_Space), ("strings.asciiSpace", Rows.laid_strings_asciiSpace), ("unicode/utf8.first", Rows.laid_unicode_utf8_first)] w) ∧ sizedMet enc Tryd.prog Tryd.f3 (OpenSpec.ofChange Rows.lexWordsSpec) false w args)
      (Rows.lexWordsSpec.post enc Tryd.prog Tryd.f3 false true false false) := by
  refine returnsInHanded_of_change_and (C := Tryd.checked) (X := fun w _ => laidMetH Tryd.prog [("math/bits.deBruijn32tab", Rows.laid_math_bits_deBruijn32tab), ("math/bits.deBruijn64tab", Rows.laid_math_bits_deBruijn64tab), ("internal/strconv.uint64pow10", Rows.laid_internal_strconv_uint64pow10), ("unicode/utf8.acceptRanges", Rows.laid_unicode_utf8_acceptRanges), ("strconv.ErrRange", Rows.laid_strconv_ErrRange), ("strconv.ErrSyntax", Rows.laid_strconv_ErrSyntax), ("unicode.White_Space", Rows.laid_unicode_White_Space), ("strings.asciiSpace", Rows.laid_strings_asciiSpace), ("unicode/utf8.first", Rows.laid_unicode_utf8_first)] w) (fun _ _ _ hh h => h.of_heap hh) own started (by kernel_rfl) Tryd.func3
    (ChangeSpec.witness_shaped (enc := enc) (C := Tryd.checked) (os := os) (X := fun w _ => laidMetH Tryd.prog [("math/bits.deBruijn32tab", Rows.laid_math_bits_deBruijn32tab), ("math/bits.deBruijn64tab", Rows.laid_math_bits_deBruijn64tab), ("internal/strconv.uint64pow10", Rows.laid_internal_strconv_uint64pow10), ("unicode/utf8.acceptRanges", Rows.laid_unicode_utf8_acceptRanges), ("strconv.ErrRange", Rows.laid_strconv_ErrRange), ("strconv.ErrSyntax", Rows.laid_strconv_ErrSyntax), ("unicode.White_Space", Rows.laid_unicode_White_Space), ("strings.asciiSpace", Rows.laid_strings_asciiSpace), ("unicode/utf8.first", Rows.laid_unicode_utf8_first)] w) false (doorW os) #[.string .empty] 8 (doorW_os os) (World.shaped_of_ZipB (by kernel_rfl) (by kernel_rfl)) (by kernel_rfl) (by kernel_rfl) (by kernel_rfl) (door_met os _)) ?_
  intro W base args ds gs before hval0 hW _ _ hL _
  have hval : ∀ (j : Nat) t v, Tryd.f3.params[j]? = some t → args[j]? = some v → Value.okWide Tryd.prog W .any base t v := hval0
  have hW' := hW
  obtain ⟨p, q, hA0, hV, rfl, hfz, hnd⟩ := hW
  have hA : DataW.TrodAll enc Tryd.prog W 0 (fun _ => true) true Tryd.f3.params.toList args.toList ds p := hA0
  rw [Tryd.params3] at hA hval
  obtain ⟨v0, vs0, d0, ds0, p0, q0, hargs, rfl, rfl, h0, r0⟩ := trodAll_cons hA
  obtain ⟨rfl, rfl, rfl⟩ := trodAll_nil r0
  obtain rfl : args = #[v0] := by cases args; simp_all
  obtain ⟨rfl, rfl⟩ := trodVars_none hV
  obtain ⟨a0, rfl, rfl, rfl, w0⟩ := open_string Tryd.underlying9 (hval 0 9 v0 rfl rfl) h0
  refine (walk a0 W w0 (globs hL)).mono fun e W' ⟨he, hg⟩ => ?_
  subst he
  exact ⟨_, rfl, Ev.post_law (by kernel_rfl) (by kernel_rfl) rfl Tryd.underlying4 rfl hW' rfl hg⟩

theorem over : Rows.lexWordsRow.holds Tryd.pinned (OpenSpec.ofChange Rows.lexWordsSpec) :=
  OpenClaim.holds_of_wide 3 Tryd.f3 rfl rfl rfl rfl rfl rfl rfl ⟨rfl, rfl, rfl, rfl, rfl⟩ rfl rfl rfl rfl rfl (by kernel_rfl) Tryd.func3 (by kernel_rfl)
    (of_decide_eq_true (by kernel_rfl)) (by unfold Func.isWrapper; first | (rw [if_pos (by decide +kernel)]; kernel_rfl) | (rw [if_neg (by decide +kernel)]; exact ⟨rfl, rfl⟩))
    (fun os started H enc _ => lifted os started H enc)

/-- The statement's row. -/
theorem row : Rows.LexWordsSaid :=
  over

set_option maxRecDepth 100000 in
/-- The statement, its row tied to the text of the program. -/
theorem proved : Rows.LexWordsCardSaid :=
  Claim7.holds_tied_plain_at .later [] [.data, .data, .data, .data, .sentinel, .sentinel, .listed, .data, .pinned] true (true, "e603a43f216a571645e7dabf6d67daca7e188c44340727b630deb8c0ad4543d9") true
    row (fun _ h => by cases h) (by kernel_rfl) (fun _ h => by cases h) lexWords_row_tie rfl ⟨rfl, rfl⟩ (by kernel_rfl) rfl
    (fun f fn hf hfn => by
      obtain rfl : f = 3 := Option.some.inj ((show Tryd.prog.funcNamed "lodger/lodgerlaw09.LexWords" = some 3 by kernel_rfl).symm.trans hf) |>.symm
      obtain rfl : fn = Tryd.f3 := (Option.some.inj (Tryd.func3.symm.trans hfn)).symm
      exact ⟨by kernel_rfl, fun j t ht => by
        rw [Tryd.params3] at ht
        obtain rfl : t = 9 := by
          rcases j with _ | j
          · simpa using ht.symm
          · simp at ht
        kernel_rfl⟩)
    (by kernel_rfl)
#print axioms proved
end Go.Proofs.YtiebebobpmohdaaDoor.lexWords
