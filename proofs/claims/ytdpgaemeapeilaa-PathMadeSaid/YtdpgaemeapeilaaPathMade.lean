/- The statement PathMade: any pieces, put together, cleaned, are as the document's answer has it. No condition: it is shown of all arguments and every world. The runs are reckoned by the evaluator of the texts Ev*, which is shown to be followed by the model. -/
import Derived.Test.YtdpgaemeapeilaaPaK
import Derived.WalkKit
import Derived.ProofKit
import Derived.OpenShut
import Derived.ChangeMaps5
set_option maxRecDepth 100000
set_option linter.unusedVariables false
namespace Go.Proofs.Ytdpgaemeapeilaa.pathMade
open Go Go.ChangeShapes Go.WideShapes Go.ChangeAt Go.RowKit Go.ChangeMaps
open Ev pth

noncomputable def Ls (o n c : Nat) (y : Nat → List UInt8) (s : List UInt8) (i : Int) (G : T (T AV)) : AM := ⟨⟨4, 67, (.node (.node (.node .leaf (some (.str s)) .leaf) none .leaf) (some (.slc 0 0 o n c)) (.node (.node .leaf (some (.int .i64 i)) .leaf) none .leaf)),
   [.code (cd P 4 [1, 1, 0, 1, 0, 0]), .inLoop (cd P 4 [1, 1, 0, 1, 0, 0]), .inBlock 0, .code (cd P 4 [1, 1, 1])], [], .run, CallKind.normal, none⟩, [], ⟨(.node .leaf (some (.ro (.fn fun j => some (.str (y j))) o (o + c))) .leaf), 1, G⟩⟩
noncomputable def Ln (s : List UInt8) (i : Int) (G : T (T AV)) : AM := ⟨⟨4, 67, (.node (.node (.node .leaf (some (.str s)) .leaf) none .leaf) (some (.nils 0 0)) (.node (.node .leaf (some (.int .i64 i)) .leaf) none .leaf)),
   [.code (cd P 4 [1, 1, 0, 1, 0, 0]), .inLoop (cd P 4 [1, 1, 0, 1, 0, 0]), .inBlock 0, .code (cd P 4 [1, 1, 1])], [], .run, CallKind.normal, none⟩, [], ⟨.leaf, 0, G⟩⟩
noncomputable def Le (s : List UInt8) (i : Int) (G : T (T AV)) : AM := ⟨⟨4, 67, (.node (.node (.node .leaf (some (.str s)) .leaf) none .leaf) (some .sle) (.node (.node .leaf (some (.int .i64 i)) .leaf) none .leaf)),
   [.code (cd P 4 [1, 1, 0, 1, 0, 0]), .inLoop (cd P 4 [1, 1, 0, 1, 0, 0]), .inBlock 0, .code (cd P 4 [1, 1, 1])], [], .run, CallKind.normal, none⟩, [], ⟨.leaf, 0, G⟩⟩

theorem start (R : AV → Prop) (b o n c : Nat) (y : Nat → List UInt8) (G : T (T AV)) (K : AM → Prop) : optK ((startL P 4 [.slc 0 0 o n c] [⟨true, b, .fn (fun j => some (.str (y j))), o, o + c⟩] G)) (Obl P 4 (fun v _ => R v) 0 K [.run 15, .can 0 [0] [0, 3, 4] []]) = (K (Ls o n c y [] 0 G)) := by kernel_rfl

theorem startN (R : AV → Prop) (b : Nat) (G : T (T AV)) (K : AM → Prop) : optK ((startL P 4 [.nils 0 0] [⟨false, b, .leaf, 0, 0⟩] G)) (Obl P 4 (fun v _ => R v) 0 K [.run 15, .can 0 [] [0, 3, 4] []]) = (K (Ln [] 0 G)) := by kernel_rfl

theorem startE (R : AV → Prop) (b : Nat) (G : T (T AV)) (K : AM → Prop) : optK ((startL P 4 [.sle] [⟨false, b, .leaf, 0, 0⟩] G)) (Obl P 4 (fun v _ => R v) 0 K [.run 15, .can 0 [] [0, 3, 4] []]) = (K (Le [] 0 G)) := by kernel_rfl

theorem more (R : AV → Prop) (o n c : Nat) (y : Nat → List UInt8) (s d : List UInt8) (i e : Int) (m : Bool) (G : T (T AV)) (K : AM → Prop) : Obl P 4 (fun v _ => R v) 0 K [.run 8, .know 13 true, .run 4, .know 16 true, .run 9, .op, .op, .run 2, .op, .op, .run 2, .op, .op, .run 10, .know 36 true, .run 3, .op, .run 9, .can 0 [0] [0, 3, 4] []] ((Ls o n c y s i G)) = ((decide (i < (↑n : Int)) = true) ∧ (decide (i < (30 : Int)) = true) ∧ ((0 : Int) ≤ i ∧ i < (↑n : Int)) ∧ (o ≤ o + i.toNat * 1 ∧ o + i.toNat * 1 + (1 : Nat) ≤ o + c) ∧ ((0 : Int) ≤ i ∧ i < (↑n : Int)) ∧ (o ≤ o + i.toNat * 1 ∧ o + i.toNat * 1 + (1 : Nat) ≤ o + c) ∧ (((0 : Int) ≤ if decide ((20 : Int) < (↑(y (o + i.toNat * 1)).length : Int)) = true then (20 : Int) else (↑(y (o + i.toNat * 1)).length : Int)) ∧ (if decide ((20 : Int) < (↑(y (o + i.toNat * 1)).length : Int)) = true then (20 : Int) else (↑(y (o + i.toNat * 1)).length : Int)) ≤ (↑(y (o + i.toNat * 1)).length : Int)) ∧ (s.length + (List.take ((if decide ((20 : Int) < (↑(y (o + i.toNat * 1)).length : Int)) = true then (20 : Int) else (↑(y (o + i.toNat * 1)).length : Int)).toNat - (0 : Nat)) (List.drop (0 : Nat) (y (o + i.toNat * 1)))).length < 1099511627776) ∧ (decide (IntKind.i64.wrap (i + (1 : Int)) < (↑n : Int)) = true) ∧ ((s ++ List.take ((if decide ((20 : Int) < (↑(y (o + i.toNat * 1)).length : Int)) = true then (20 : Int) else (↑(y (o + i.toNat * 1)).length : Int)).toNat - (0 : Nat)) (List.drop (0 : Nat) (y (o + i.toNat * 1)))).length + 1 < 1099511627776) ∧ K (Ls o n c y (s ++ List.take ((if decide ((20 : Int) < (↑(y (o + i.toNat * 1)).length : Int)) = true then (20 : Int) else (↑(y (o + i.toNat * 1)).length : Int)).toNat - (0 : Nat)) (List.drop (0 : Nat) (y (o + i.toNat * 1))) ++ ([47] : List UInt8)) (IntKind.i64.wrap (i + (1 : Int))) G)) := by kernel_rfl

theorem lastOne (R : AV → Prop) (o n c : Nat) (y : Nat → List UInt8) (s d : List UInt8) (i e : Int) (m : Bool) (G : T (T AV)) (K : AM → Prop) : Obl P 4 (fun v _ => R v) 0 K [.run 8, .know 13 true, .run 4, .know 16 true, .run 9, .op, .op, .run 2, .op, .op, .run 2, .op, .op, .run 10, .know 36 false, .run 9, .can 0 [0] [0, 3, 4] []] ((Ls o n c y s i G)) = ((decide (i < (↑n : Int)) = true) ∧ (decide (i < (30 : Int)) = true) ∧ ((0 : Int) ≤ i ∧ i < (↑n : Int)) ∧ (o ≤ o + i.toNat * 1 ∧ o + i.toNat * 1 + (1 : Nat) ≤ o + c) ∧ ((0 : Int) ≤ i ∧ i < (↑n : Int)) ∧ (o ≤ o + i.toNat * 1 ∧ o + i.toNat * 1 + (1 : Nat) ≤ o + c) ∧ (((0 : Int) ≤ if decide ((20 : Int) < (↑(y (o + i.toNat * 1)).length : Int)) = true then (20 : Int) else (↑(y (o + i.toNat * 1)).length : Int)) ∧ (if decide ((20 : Int) < (↑(y (o + i.toNat * 1)).length : Int)) = true then (20 : Int) else (↑(y (o + i.toNat * 1)).length : Int)) ≤ (↑(y (o + i.toNat * 1)).length : Int)) ∧ (s.length + (List.take ((if decide ((20 : Int) < (↑(y (o + i.toNat * 1)).length : Int)) = true then (20 : Int) else (↑(y (o + i.toNat * 1)).length : Int)).toNat - (0 : Nat)) (List.drop (0 : Nat) (y (o + i.toNat * 1)))).length < 1099511627776) ∧ (decide (IntKind.i64.wrap (i + (1 : Int)) < (↑n : Int)) = false) ∧ K (Ls o n c y (s ++ List.take ((if decide ((20 : Int) < (↑(y (o + i.toNat * 1)).length : Int)) = true then (20 : Int) else (↑(y (o + i.toNat * 1)).length : Int)).toNat - (0 : Nat)) (List.drop (0 : Nat) (y (o + i.toNat * 1)))) (IntKind.i64.wrap (i + (1 : Int))) G)) := by kernel_rfl

theorem full (R : AV → Prop) (o n c : Nat) (y : Nat → List UInt8) (s d : List UInt8) (i e : Int) (m : Bool) (G : T (T AV)) (_K : AM → Prop) : Obl P 4 (fun v _ => R v) 0 _K [.run 8, .know 13 true, .run 4, .know 16 false, .run 6, (.callv [0] (.tup [.str d, .int .i64 e])), .run 10, (.callv [0] (.tup [.str d, .int .i64 e])), .run 12, .know 52 true, .run 5, .know 57 true, .run 2, (.callv [0] (.bool m)), .run 2, (.callv [0] (.bool m)), .run 3, .know 64 true, .run 1, (.callv [] (.bool true)), .run 4, .done] ((Ls o n c y s i G)) = ((decide (i < (↑n : Int)) = true) ∧ (decide (i < (30 : Int)) = false) ∧ (Goal P (0) 6 (fun x _ => x = AV.tup [AV.str d, AV.int IntKind.i64 e]) (startM P 6 [.str s] G)) ∧ (Goal P (0) 7 (fun x _ => x = AV.tup [AV.str d, AV.int IntKind.i64 e]) (startM P 7 [.str s] G)) ∧ ((d == d) = true) ∧ ((e == e) = true) ∧ (Goal P (0) 8 (fun x _ => x = AV.bool m) (startM P 8 [.str s] G)) ∧ (Goal P (0) 9 (fun x _ => x = AV.bool m) (startM P 9 [.str s] G)) ∧ ((m == m) = true) ∧ (Goal P (0) 10 (fun x _ => x = AV.bool true) (startM P 10 [] G)) ∧ (R (.bool true))) := by kernel_rfl

theorem done (R : AV → Prop) (o n c : Nat) (y : Nat → List UInt8) (s d : List UInt8) (i e : Int) (m : Bool) (G : T (T AV)) (_K : AM → Prop) : Obl P 4 (fun v _ => R v) 0 _K [.run 8, .know 13 false, .run 10, (.callv [0] (.tup [.str d, .int .i64 e])), .run 10, (.callv [0] (.tup [.str d, .int .i64 e])), .run 12, .know 52 true, .run 5, .know 57 true, .run 2, (.callv [0] (.bool m)), .run 2, (.callv [0] (.bool m)), .run 3, .know 64 true, .run 1, (.callv [] (.bool true)), .run 4, .done] ((Ls o n c y s i G)) = ((decide (i < (↑n : Int)) = false) ∧ (Goal P (0) 6 (fun x _ => x = AV.tup [AV.str d, AV.int IntKind.i64 e]) (startM P 6 [.str s] G)) ∧ (Goal P (0) 7 (fun x _ => x = AV.tup [AV.str d, AV.int IntKind.i64 e]) (startM P 7 [.str s] G)) ∧ ((d == d) = true) ∧ ((e == e) = true) ∧ (Goal P (0) 8 (fun x _ => x = AV.bool m) (startM P 8 [.str s] G)) ∧ (Goal P (0) 9 (fun x _ => x = AV.bool m) (startM P 9 [.str s] G)) ∧ ((m == m) = true) ∧ (Goal P (0) 10 (fun x _ => x = AV.bool true) (startM P 10 [] G)) ∧ (R (.bool true))) := by kernel_rfl

theorem wN (R : AV → Prop) (s d : List UInt8) (e : Int) (m : Bool) (G : T (T AV)) (_K : AM → Prop) : Obl P 4 (fun v _ => R v) 0 _K [.run 18, (.callv [0] (.tup [.str d, .int .i64 e])), .run 10, (.callv [0] (.tup [.str d, .int .i64 e])), .run 12, .know 52 true, .run 5, .know 57 true, .run 2, (.callv [0] (.bool m)), .run 2, (.callv [0] (.bool m)), .run 3, .know 64 true, .run 1, (.callv [] (.bool true)), .run 4, .done] ((Ln s 0 G)) = ((Goal P (0) 6 (fun x _ => x = AV.tup [AV.str d, AV.int IntKind.i64 e]) (startM P 6 [.str s] G)) ∧ (Goal P (0) 7 (fun x _ => x = AV.tup [AV.str d, AV.int IntKind.i64 e]) (startM P 7 [.str s] G)) ∧ ((d == d) = true) ∧ ((e == e) = true) ∧ (Goal P (0) 8 (fun x _ => x = AV.bool m) (startM P 8 [.str s] G)) ∧ (Goal P (0) 9 (fun x _ => x = AV.bool m) (startM P 9 [.str s] G)) ∧ ((m == m) = true) ∧ (Goal P (0) 10 (fun x _ => x = AV.bool true) (startM P 10 [] G)) ∧ (R (.bool true))) := by kernel_rfl

theorem wE (R : AV → Prop) (s d : List UInt8) (e : Int) (m : Bool) (G : T (T AV)) (_K : AM → Prop) : Obl P 4 (fun v _ => R v) 0 _K [.run 18, (.callv [0] (.tup [.str d, .int .i64 e])), .run 10, (.callv [0] (.tup [.str d, .int .i64 e])), .run 12, .know 52 true, .run 5, .know 57 true, .run 2, (.callv [0] (.bool m)), .run 2, (.callv [0] (.bool m)), .run 3, .know 64 true, .run 1, (.callv [] (.bool true)), .run 4, .done] ((Le s 0 G)) = ((Goal P (0) 6 (fun x _ => x = AV.tup [AV.str d, AV.int IntKind.i64 e]) (startM P 6 [.str s] G)) ∧ (Goal P (0) 7 (fun x _ => x = AV.tup [AV.str d, AV.int IntKind.i64 e]) (startM P 7 [.str s] G)) ∧ ((d == d) = true) ∧ ((e == e) = true) ∧ (Goal P (0) 8 (fun x _ => x = AV.bool m) (startM P 8 [.str s] G)) ∧ (Goal P (0) 9 (fun x _ => x = AV.bool m) (startM P 9 [.str s] G)) ∧ ((m == m) = true) ∧ (Goal P (0) 10 (fun x _ => x = AV.bool true) (startM P 10 [] G)) ∧ (R (.bool true))) := by kernel_rfl

def Q : AV → AHeap → Prop := fun v _ => v = .bool true

theorem cut20 (u : List UInt8) : (0 ≤ (if decide ((20 : Int) < (u.length : Int)) = true then (20 : Int) else (u.length : Int)) ∧ (if decide ((20 : Int) < (u.length : Int)) = true then (20 : Int) else (u.length : Int)) ≤ (u.length : Int)) ∧ (List.take ((if decide ((20 : Int) < (u.length : Int)) = true then (20 : Int) else (u.length : Int)).toNat - 0) (List.drop 0 u)).length ≤ 20 := by
  by_cases h : (20 : Int) < (u.length : Int)
  · rw [if_pos (decide_eq_true h)]
    exact ⟨⟨by omega, by omega⟩, by rw [List.length_take]; omega⟩
  · rw [if_neg (by rw [decide_eq_true_eq]; exact h)]
    exact ⟨⟨by omega, by omega⟩, by rw [List.length_take]; omega⟩

theorem rest_ok {s : List UInt8} (h : s.length < 2 ^ 29) : Goal P 0 6 (fun v _ => v = .tup [.str (cl s).1, .int .i64 (cl s).2]) (startM P 6 [.str s] .leaf) ∧ Goal P 0 7 (fun v _ => v = .tup [.str (cl s).1, .int .i64 (cl s).2]) (startM P 7 [.str s] .leaf) ∧
    Goal P 0 8 (fun v _ => v = .bool (mayR s)) (startM P 8 [.str s] .leaf) ∧ Goal P 0 9 (fun v _ => v = .bool (mayR s)) (startM P 9 [.str s] .leaf) :=
  ⟨clean_ok h, rclean_ok h, by rw [← may_eq]; exact may_ok h, rmay_ok h⟩

theorem loop {o n c : Nat} {y : Nat → List UInt8} (hn : n ≤ c) (hc : c < 2 ^ 63) : ∀ (d i : Nat) (s : List UInt8), i + d = 30 → i ≤ n → s.length ≤ 21 * i → Goal P 0 4 Q (Ls o n c y s i .leaf)
  | 0, i, s, hd, hi, hs => by
    obtain ⟨r1, r2, r3, r4⟩ := rest_ok (s := s) (by omega)
    by_cases hin : i < n
    · exact Obl.goal (K := Goal P 0 4 Q) mix (fun _ h => h) (cast (full (fun v => v = .bool true) o n c y s (cl s).1 i (cl s).2 (mayR s) .leaf _).symm ⟨decide_eq_true (by omega), decide_eq_false (by omega), r1, r2, BEq.rfl, BEq.rfl, r3, r4, BEq.rfl, works_ok, rfl⟩)
    · exact Obl.goal (K := Goal P 0 4 Q) mix (fun _ h => h) (cast (done (fun v => v = .bool true) o n c y s (cl s).1 i (cl s).2 (mayR s) .leaf _).symm ⟨decide_eq_false (by omega), r1, r2, BEq.rfl, BEq.rfl, r3, r4, BEq.rfl, works_ok, rfl⟩)
  | d + 1, i, s, hd, hi, hs => by
    by_cases hin : i < n
    · have hw : IntKind.i64.wrap ((i : Int) + 1) = ((i + 1 : Nat) : Int) := by rw [wi (by omega)]; rfl
      obtain ⟨k1, k2⟩ := cut20 (y (o + (i : Int).toNat * 1))
      by_cases hm : i + 1 < n
      · refine Obl.goal (K := Goal P 0 4 Q) mix (fun _ h => h) (cast (more (fun v => v = .bool true) o n c y s (cl s).1 i 0 true .leaf _).symm ?_)
        rw [hw]
        exact ⟨decide_eq_true (by omega), decide_eq_true (by omega), ⟨by omega, by omega⟩, ⟨by omega, by omega⟩, ⟨by omega, by omega⟩, ⟨by omega, by omega⟩, k1, by omega, decide_eq_true (by omega), by rw [List.length_append]; omega, loop hn hc d (i + 1) _ (by omega) (by omega) (by rw [List.length_append, List.length_append, List.length_singleton]; omega)⟩
      · refine Obl.goal (K := Goal P 0 4 Q) mix (fun _ h => h) (cast (lastOne (fun v => v = .bool true) o n c y s (cl s).1 i 0 true .leaf _).symm ?_)
        rw [hw]
        exact ⟨decide_eq_true (by omega), decide_eq_true (by omega), ⟨by omega, by omega⟩, ⟨by omega, by omega⟩, ⟨by omega, by omega⟩, ⟨by omega, by omega⟩, k1, by omega, decide_eq_false (by omega), loop hn hc d (i + 1) _ (by omega) (by omega) (by rw [List.length_append]; omega)⟩
    · obtain ⟨r1, r2, r3, r4⟩ := rest_ok (s := s) (by omega)
      exact Obl.goal (K := Goal P 0 4 Q) mix (fun _ h => h) (cast (done (fun v => v = .bool true) o n c y s (cl s).1 i (cl s).2 (mayR s) .leaf _).symm ⟨decide_eq_false (by omega), r1, r2, BEq.rfl, BEq.rfl, r3, r4, BEq.rfl, works_ok, rfl⟩)

theorem none_ok : Goal P 0 4 Q (Ln [] 0 .leaf) := by
  obtain ⟨r1, r2, r3, r4⟩ := rest_ok (s := []) (by decide)
  exact Obl.goal (K := Goal P 0 4 Q) mix (fun _ h => h) (cast (wN (fun v => v = .bool true) [] (cl []).1 (cl []).2 (mayR []) .leaf _).symm ⟨r1, r2, BEq.rfl, BEq.rfl, r3, r4, BEq.rfl, works_ok, rfl⟩)
theorem empty_ok : Goal P 0 4 Q (Le [] 0 .leaf) := by
  obtain ⟨r1, r2, r3, r4⟩ := rest_ok (s := []) (by decide)
  exact Obl.goal (K := Goal P 0 4 Q) mix (fun _ h => h) (cast (wE (fun v => v = .bool true) [] (cl []).1 (cl []).2 (mayR []) .leaf _).symm ⟨r1, r2, BEq.rfl, BEq.rfl, r3, r4, BEq.rfl, works_ok, rfl⟩)

theorem str_rel (R : Bij) (b : ByteArray) : VRel R (.str b.data.toList) (.string b) := by
  show Value.string b = .string ⟨b.data.toList.toArray⟩
  rw [Array.toArray_toList]

theorem walk (v0 : Value) (w : World)
    (hv : v0 = .slice none 0 0 ∨ ∃ (a : Addr) (len cap : Nat) (zs : List ByteArray), v0 = .slice (some a) len cap ∧ len ≤ cap ∧ cap ≤ maxLen ∧ zs.length = cap ∧ (∀ i, i < zs.length → w.cell? (a.add i) = some (.string (zs.getD i .empty))) ∧ (∀ s ∈ zs, s.size ≤ maxLen)) :
    Calls P 4 #[v0] w fun r w' => r = .returned (.bool true) ∧ Old w w' := by
  have hG : Globs .leaf w := fun g c e => by cases e
  rcases hv with rfl | ⟨a, len, cap, zs, rfl, hlc, hcm, hzl, hc, _⟩
  · refine law_ok (K := Goal P 0 4 Q) mix (cast (startN (fun v => v = .bool true) 0 .leaf _).symm none_ok) (fun _ h => h) (vs := [.slice none 0 0]) hG (fun x hx => ?_) ⟨_, _, rfl, rfl, rfl⟩
    rcases List.mem_cons.1 hx with rfl | hx
    · exact fun h => by cases h
    · exact absurd hx List.not_mem_nil
  · by_cases h0 : cap = 0
    · subst h0
      obtain rfl : len = 0 := by omega
      refine law_ok (K := Goal P 0 4 Q) mix (cast (startE (fun v => v = .bool true) 0 .leaf _).symm empty_ok) (fun _ h => h) (vs := [.slice (some a) 0 0]) hG (fun x hx => ?_) ⟨_, _, rfl, ⟨a, rfl⟩, rfl⟩
      rcases List.mem_cons.1 hx with rfl | hx
      · exact fun h => by cases h
      · exact absurd hx List.not_mem_nil
    · obtain ⟨b, off, rfl, hold⟩ := inp_at (w := w) (a := a) (n := cap) (f := fun i => .string (zs.getD i .empty)) (g := fun i => .str (zs.getD i .empty).data.toList) (fun i hi => hc i (by omega)) (fun i _ => str_rel _ _) (by omega)
      unfold maxLen at hcm
      refine law_ok (K := Goal P 0 4 Q) mix (cast (start (fun v => v = .bool true) b off len cap (fun j => (zs.getD (j - off) .empty).data.toList) .leaf _).symm ?_) (fun _ h => h) (vs := [.slice (some ⟨b, off, none⟩) len cap]) hG (fun x hx => ?_) ⟨_, _, rfl, ⟨⟨b, 0, 0⟩, by simp [inpBij], Nat.zero_le _, rfl⟩, rfl⟩
      · exact loop hlc (by omega) 30 0 [] (by omega) (by omega) (by simp)
      · rcases List.mem_cons.1 hx with rfl | hx
        · exact hold
        · exact absurd hx List.not_mem_nil

theorem own : ownKnob Try.prog.godebug = none := by kernel_rfl

/-! ### The row's step -/
theorem lifted (os : Os) (started : os.Started) (H : Type) (enc : TypeId × Value → H) :
    ReturnsInHanded {} Try.checked os 4 .any (Rows.pathMadeSpec.pre6 enc Try.prog Try.f4 Rows.pathMadeRow.domain false) (Rows.pathMadeSpec.post enc Try.prog Try.f4 false true false false) := by
  refine returnsInHanded_of_change (C := Try.checked) own started (by kernel_rfl) Try.func4
    (ChangeSpec.witness6 (enc := enc) (C := Try.checked) false ⟨#[], #[.slice none 0 0], []⟩ 8 (by kernel_rfl) (by kernel_rfl) (by kernel_rfl) (by kernel_rfl)) ?_
  intro W base args ds gs before hval0 hW hcnd _
  have hval : ∀ (j : Nat) t v, Try.f4.params[j]? = some t → args[j]? = some v → Value.okWide Try.prog W .any base t v := hval0
  have hW' := hW
  obtain ⟨p, q, hA0, hV, rfl, hfz, hnd⟩ := hW
  have hA : DataW.TrodAll enc Try.prog W 0 (fun _ => true) true Try.f4.params.toList args.toList ds p := hA0
  rw [Try.params4] at hA hval
  obtain ⟨v0, vs0, d0, ds0, p0, q0, hargs, rfl, rfl, h0, r0⟩ := trodAll_cons hA
  obtain ⟨rfl, rfl, rfl⟩ := trodAll_nil r0
  obtain rfl : args = #[v0] := by cases args; simp_all
  obtain ⟨rfl, rfl⟩ := trodVars_none hV
  refine (walk v0 W (Ev.in_strings Try.underlying27 Try.underlying9 (by kernel_rfl) (hval 0 27 v0 rfl rfl) h0)).mono fun e W' ⟨he, hg⟩ => ?_
  subst he
  exact ⟨_, rfl, Ev.post_law (by kernel_rfl) (by kernel_rfl) rfl Try.underlying4 rfl hW' rfl hg⟩

theorem held : Rows.pathMadeRow.holds Try.pinned (OpenSpec.ofChange Rows.pathMadeSpec) :=
  OpenClaim.holds_of_wide 4 Try.f4 rfl rfl rfl rfl rfl rfl rfl ⟨rfl, rfl, rfl, rfl, rfl⟩ rfl rfl rfl rfl rfl (by kernel_rfl) Try.func4 (by kernel_rfl)
    (of_decide_eq_true (by kernel_rfl)) (by unfold Func.isWrapper; first | (rw [if_pos (by decide +kernel)]; kernel_rfl) | (rw [if_neg (by decide +kernel)]; exact ⟨rfl, rfl⟩))
    (fun os started H enc _ => lifted os started H enc)

/-- The statement. -/
theorem proved : Rows.PathMadeSaid :=
  held
#print axioms proved
end Go.Proofs.Ytdpgaemeapeilaa.pathMade
