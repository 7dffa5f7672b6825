import Derived.Test.YtdbfpjgnlfejmaaDoorB00
import Derived.Test.YtdbfpjgnlfejmaaDoorB01
import Derived.Test.YtdbfpjgnlfejmaaDoorB02
import Derived.Test.YtdbfpjgnlfejmaaDoorB03
import Derived.Test.YtdbfpjgnlfejmaaDoorB04
import Derived.Test.YtdbfpjgnlfejmaaDoorB05
import Derived.Test.YtdbfpjgnlfejmaaDoorB06
import Derived.Test.YtdbfpjgnlfejmaaDoorB07
section
set_option maxRecDepth 100000
set_option linter.unusedVariables false
namespace Go.Proofs.YtdbfpjgnlfejmaaDoor.dg
open Go Ev mq
theorem rdS (ρ : Operand → Option AV) (H : AHeap) (a b : Nat) (s : List UInt8) (hi : Int) (h : 0 ≤ hi ∧ hi ≤ s.length) (e1 : ρ (.tmp a) = some (.str s)) (e2 : ρ (.tmp b) = some (.int .i64 hi)) : readA P ρ H (.slice 9 (.tmp a) none (some (.tmp b)) none) = some (.str (List.take (hi.toNat - 0) (List.drop 0 s))) := by
  have k : boundA hi s.length = some hi.toNat := by unfold boundA; rw [if_pos h]
  have k1 : boundsA s.length s.length none (some hi) none = some (0, hi.toNat, s.length) := by
    unfold boundsA boundsMx boundsHi boundsLo
    simp only [k]
  have k3 : sliceA P 9 (.str s) none (some hi) none = some (.str (List.take (hi.toNat - 0) (List.drop 0 s))) := by
    have : sliceA P 9 (.str s) none (some hi) none = strOf s (boundsA s.length s.length none (some hi) none) := by kernel_rfl
    rw [this, k1]
    rfl
  have o1 : optEv ρ none = some none := rfl
  have o2 : optEv ρ (some (.tmp b)) = some (some hi) := by
    show (match ρ (.tmp b) with
      | some (.int _ n) => some (some n)
      | _ => none) = _
    rw [e2]
  have k2 : sliceOp P ρ H 9 (.tmp a) none (some (.tmp b)) none = some (.str (List.take (hi.toNat - 0) (List.drop 0 s))) := by
    unfold sliceOp
    rw [e1, o1, o2]
    show sliceH P H 9 (.str s) none (some hi) none = _
    unfold sliceH
    rw [k3]
  show (match valE H (sliceOp P ρ H 9 (.tmp a) none (some (.tmp b)) none) with
    | some (.val v _) => some v
    | _ => none) = _
  rw [k2]
  rfl
theorem s12L (R : AV → AHeap → Prop) (w : List UInt8) (n : Nat) (G : T (T AV)) (_K : AM → Prop) : Obl P 12 (fun v h => R v h) 0 _K [.run 181, .can 0 [] [2] [], .done] ((startM P 12 [.sle] G)) = ((R (.nils 0 0) (⟨.leaf, 0, G⟩))) := by kernel_rfl
theorem s14L (R : AV → AHeap → Prop) (w : List UInt8) (n : Nat) (G : T (T AV)) (_K : AM → Prop) : Obl P 14 (fun v h => R v h) 0 _K [.run 8, (.callh [] [0] (.nils 0 0) ⟨.leaf, 0, G⟩), .run 12, (.callv [0, 1] (.str w)), .run 40, .opw false, .run 43, .slot 6 (.slg 1 0 0 (n + 1) 0), .run 6, .ext w, .run 7, .can 0 [] [2] [], .done] ((startM P 14 [.sle] G)) = ((Goal P (0) 12 (fun x k => x = AV.nils (0 : Nat) (0 : Nat) ∧ k = { objs := T.leaf, next := (0 : Nat), glob := G }) (startM P 12 [.sle] G)) ∧ (Goal P (0) 48 (fun x x_1 => x = AV.str w) (startM P 48 [.str [], .int .u64 0] G)) ∧ (w.length ≤ w.length ∧ (0 : Nat) < w.length ∧ roomA w.length (1) = true) ∧ (AV.slg (1) (0) (0) w.length (0) = AV.slg (1) (0) (0) (n + (1 : Nat)) (0)) ∧ ((0 : Int) < (↑w.length : Int) ∧ (↑w.length : Int) < (2 : Int) ^ (40 : Nat) ∧ (↑w.length : Int).toNat ≤ w.length * 1 ∧ P.cellsOf (5) = (1 : Nat) ∧ cellsStr (loadList (T.fn fun k => some (AV.int IntKind.u8 (↑(w.getD k (0 : UInt8)).toNat : Int))) (0 : Nat) (↑w.length : Int).toNat) = some (AV.str w)) ∧ (R (.str w) (⟨.leaf, 0, G⟩))) := by kernel_rfl
theorem sort_nilL : Goal P 0 12 (fun x k => x = .nils 0 0 ∧ k = ⟨.leaf, 0, GW⟩) (startM P 12 [.nils 0 0] GW) := Obl.goal (K := Goal P 0 12 _) mix (fun _ h => h) (cast (sortN (fun x k => x = .nils 0 0 ∧ k = ⟨.leaf, 0, GW⟩) GW (Goal P 0 12 _)).symm ⟨rfl, rfl⟩)
theorem sort_sleL : Goal P 0 12 (fun x k => x = .nils 0 0 ∧ k = ⟨.leaf, 0, GW⟩) (startM P 12 [.sle] GW) := Obl.goal (K := Goal P 0 12 _) mix (fun _ h => h) (cast (s12L (fun x k => x = .nils 0 0 ∧ k = ⟨.leaf, 0, GW⟩) [] 0 GW _).symm ⟨rfl, rfl⟩)
theorem enc_sleL : Goal P 0 14 (fun v h => v = .str (encL []) ∧ h = ⟨.leaf, 0, GW⟩) (startM P 14 [.sle] GW) := by
  have e : encL [] = [] ++ row 0 := by unfold encL; rw [List.flatMap_nil, List.append_nil]; rfl
  have hp := row_pos 0
  have hl := row_length 0
  have e1 : ([] ++ row 0 : List UInt8) = row 0 := List.nil_append _
  rw [e, e1]
  obtain ⟨n, hn⟩ : ∃ n, (row 0).length = n + 1 := ⟨(row 0).length - 1, by omega⟩
  have h48 := puts [] 0 (by omega) (by omega) (by show 0 + 9 < _; omega)
  rw [e1] at h48
  exact Obl.goal (K := Goal P 0 14 _) mix (fun _ h => h) (cast (s14L (fun v h => v = .str (row 0) ∧ h = ⟨.leaf, 0, GW⟩) (row 0) (n) GW _).symm ⟨sort_sleL, h48, ⟨Nat.le_refl _, hp, room _ (by omega)⟩, by rw [hn], ⟨by omega, by omega, by rw [Int.toNat_natCast]; omega, by kernel_rfl, row_str _ _ (Int.toNat_natCast _)⟩, rfl, rfl⟩)
noncomputable def BM (s : List UInt8) (G : T (T AV)) : AM := ⟨⟨5, 57, (.node (.node .leaf (some (.str s)) .leaf) none (.node (.node (.node .leaf none (.node .leaf (some (.bool false)) .leaf)) none (.node .leaf none (.node .leaf (some (.bool true)) .leaf))) none .leaf)),
   [.ops (rg P 5 [1, 1, 1, 1, 0, 0]).toList ((rg P 5 [1, 1, 1, 1, 0, 0]).toList.drop 7), .code (cd P (5 : Nat) [(1 : Nat), (1 : Nat), (1 : Nat), (1 : Nat), (0 : Nat), (1 : Nat)]), .code (cd P (5 : Nat) [(1 : Nat), (1 : Nat), (1 : Nat), (1 : Nat), (1 : Nat)])], [], .run, CallKind.normal, none⟩,
  [],
  ⟨.leaf, 0, G⟩⟩
theorem ba (R : AV → Prop) (cell cell' cell2 : Nat → AV) (s t : List UInt8) (n m cp z y y2 lo off k : Nat) (G : T (T AV)) (K : AM → Prop) : Obl P 5 (fun v _ => R v) 0 K [.run 8, .callv [] (.bool true), .run 10, .op, .run 1, .slot 0 (.slc 0 0 off m cp), .run 5, .callh [(0, 0, [])] [0] (.str t) ⟨(.node .leaf (some (.ro (.fn fun j => some (cell j)) lo z)) .leaf), 1, G⟩, .run 1, .callh [] [0] (.tup [.slg 0 0 0 k 0, .int .i64 0]) ⟨(.node .leaf (some (.cells (.fn fun j => some (cell' j)) y 35 0 0 1 0 false .leaf)) .leaf), 1, G⟩, .run 15, .callh [(0, 0, [])] [0] (.slg 1 0 0 k 0) ⟨(.node (.node .leaf (some (.cells (.fn fun j => some (cell2 j)) y2 35 0 0 1 0 false .leaf)) .leaf) (some (.ro (.fn fun j => some (cell j)) lo z)) .leaf), 2, G⟩, .run 1, .callh [(1, 0, []), (2, 1, [])] [0, 1] (.bool true) ⟨(.node (.node .leaf (some (.cells (.fn fun j => some (cell2 j)) y2 35 0 0 1 0 false .leaf)) .leaf) (some (.cells (.fn fun j => some (cell' j)) y 35 0 0 1 0 false .leaf)) .leaf), 2, G⟩, .can 0 [] [1, 24, 28] []] ((startH P 5 [.slc 0 0 off n cp, .str s] ⟨(.node .leaf (some (.ro (.fn fun j => some (cell j)) lo z)) .leaf), 1, G⟩)) = ((Goal P (0) 18 (fun v _ => v = AV.bool true) (startM P 18 [] G)) ∧ (((0 : Int) ≤ if decide ((300 : Int) < (↑n : Int)) = true then (300 : Int) else (↑n : Int)) ∧ (if decide ((300 : Int) < (↑n : Int)) = true then (300 : Int) else (↑n : Int)) ≤ (↑cp : Int)) ∧ (AV.slc (0) (0) (if cp = (0 : Nat) then off else off) ((if decide ((300 : Int) < (↑n : Int)) = true then (300 : Int) else (↑n : Int)).toNat - (0 : Nat)) (cp - (0 : Nat)) = AV.slc (0) (0) off m cp) ∧ (Goal P (1) 14 (fun v h => v = AV.str t ∧ h = { objs := T.leaf.node (some (AObj.ro (T.fn fun j => some (cell j)) lo z)) T.leaf, next := (1 : Nat), glob := G }) (startH P 14 [.slc 0 0 off m cp] ⟨(.node .leaf (some (.ro (.fn fun j => some (cell j)) lo z)) .leaf), 1, G⟩)) ∧ (PlainFn fun j => some (cell' j)) ∧ (Goal P (0) 19 (fun v h => v = AV.tup [AV.slg (0 : Nat) (0 : Nat) (0 : Nat) k (0 : Nat), AV.int IntKind.i64 (0 : Int)] ∧ h = { objs := T.leaf.node (some (AObj.cells (T.fn fun j => some (cell' j)) y (35 : TypeId) (0 : Nat) (0 : Nat) (1 : Nat) (0 : Nat) false T.leaf)) T.leaf, next := (1 : Nat), glob := G }) (startM P 19 [.str t] G)) ∧ (PlainFn fun j => some (cell2 j)) ∧ (Goal P (1) 12 (fun v h => v = AV.slg (1 : Nat) (0 : Nat) (0 : Nat) k (0 : Nat) ∧ h = { objs := (T.leaf.node (some (AObj.cells (T.fn fun j => some (cell2 j)) y2 (35 : TypeId) (0 : Nat) (0 : Nat) (1 : Nat) (0 : Nat) false T.leaf)) T.leaf).node (some (AObj.ro (T.fn fun j => some (cell j)) lo z)) T.leaf, next := (2 : Nat), glob := G }) (startH P 12 [.slc 0 0 off m cp] ⟨(.node .leaf (some (.ro (.fn fun j => some (cell j)) lo z)) .leaf), 1, G⟩)) ∧ (PlainFn fun j => some (cell' j)) ∧ (PlainFn fun j => some (cell2 j)) ∧ (PlainFn fun j => some (cell' j)) ∧ (PlainFn fun j => some (cell2 j)) ∧ (Goal P (2) 21 (fun v h => v = AV.bool true ∧ h = { objs := (T.leaf.node (some (AObj.cells (T.fn fun j => some (cell2 j)) y2 (35 : TypeId) (0 : Nat) (0 : Nat) (1 : Nat) (0 : Nat) false T.leaf)) T.leaf).node (some (AObj.cells (T.fn fun j => some (cell' j)) y (35 : TypeId) (0 : Nat) (0 : Nat) (1 : Nat) (0 : Nat) false T.leaf)) T.leaf, next := (2 : Nat), glob := G }) (startH P 21 [.slg 0 0 0 k 0, .slg 1 0 0 k 0] ⟨(.node (.node .leaf (some (.cells (.fn fun j => some (cell2 j)) y2 35 0 0 1 0 false .leaf)) .leaf) (some (.cells (.fn fun j => some (cell' j)) y 35 0 0 1 0 false .leaf)) .leaf), 2, G⟩)) ∧ K (BM s G)) := by kernel_rfl
theorem bz (R : AV → Prop) (cell : Nat → AV) (s t : List UInt8) (n m cp z lo off : Nat) (G : T (T AV)) (K : AM → Prop) : Obl P 5 (fun v _ => R v) 0 K [.run 8, .callv [] (.bool true), .run 10, .op, .run 1, .slot 0 (.slc 0 0 off m cp), .run 5, .callh [(0, 0, [])] [0] (.str t) ⟨(.node .leaf (some (.ro (.fn fun j => some (cell j)) lo z)) .leaf), 1, G⟩, .run 1, .callh [] [0] (.tup [.nils 0 0, .int .i64 0]) ⟨.leaf, 0, G⟩, .run 15, .callh [(0, 0, [])] [0] (.nils 0 0) ⟨(.node .leaf (some (.ro (.fn fun j => some (cell j)) lo z)) .leaf), 1, G⟩, .run 39, .can 0 [] [1, 24, 28] []] ((startH P 5 [.slc 0 0 off n cp, .str s] ⟨(.node .leaf (some (.ro (.fn fun j => some (cell j)) lo z)) .leaf), 1, G⟩)) = ((Goal P (0) 18 (fun v _ => v = AV.bool true) (startM P 18 [] G)) ∧ (((0 : Int) ≤ if decide ((300 : Int) < (↑n : Int)) = true then (300 : Int) else (↑n : Int)) ∧ (if decide ((300 : Int) < (↑n : Int)) = true then (300 : Int) else (↑n : Int)) ≤ (↑cp : Int)) ∧ (AV.slc (0) (0) (if cp = (0 : Nat) then off else off) ((if decide ((300 : Int) < (↑n : Int)) = true then (300 : Int) else (↑n : Int)).toNat - (0 : Nat)) (cp - (0 : Nat)) = AV.slc (0) (0) off m cp) ∧ (Goal P (1) 14 (fun v h => v = AV.str t ∧ h = { objs := T.leaf.node (some (AObj.ro (T.fn fun j => some (cell j)) lo z)) T.leaf, next := (1 : Nat), glob := G }) (startH P 14 [.slc 0 0 off m cp] ⟨(.node .leaf (some (.ro (.fn fun j => some (cell j)) lo z)) .leaf), 1, G⟩)) ∧ (Goal P (0) 19 (fun v h => v = AV.tup [AV.nils (0 : Nat) (0 : Nat), AV.int IntKind.i64 (0 : Int)] ∧ h = { objs := T.leaf, next := (0 : Nat), glob := G }) (startM P 19 [.str t] G)) ∧ (Goal P (1) 12 (fun v h => v = AV.nils (0 : Nat) (0 : Nat) ∧ h = { objs := T.leaf.node (some (AObj.ro (T.fn fun j => some (cell j)) lo z)) T.leaf, next := (1 : Nat), glob := G }) (startH P 12 [.slc 0 0 off m cp] ⟨(.node .leaf (some (.ro (.fn fun j => some (cell j)) lo z)) .leaf), 1, G⟩)) ∧ K (BM s G)) := by kernel_rfl
theorem bn (R : AV → Prop) (s t : List UInt8) (G : T (T AV)) (K : AM → Prop) : Obl P 5 (fun v _ => R v) 0 K [.run 8, .callv [] (.bool true), .run 17, .callh [] [0] (.str t) ⟨.leaf, 0, G⟩, .run 1, .callh [] [0] (.tup [.nils 0 0, .int .i64 0]) ⟨.leaf, 0, G⟩, .run 15, .callh [] [0] (.nils 0 0) ⟨.leaf, 0, G⟩, .run 39, .can 0 [] [1, 24, 28] []] ((startM P 5 [.nils 0 0, .str s] G)) = ((Goal P (0) 18 (fun v _ => v = AV.bool true) (startM P 18 [] G)) ∧ (Goal P (0) 14 (fun v h => v = AV.str t ∧ h = { objs := T.leaf, next := (0 : Nat), glob := G }) (startM P 14 [.nils 0 0] G)) ∧ (Goal P (0) 19 (fun v h => v = AV.tup [AV.nils (0 : Nat) (0 : Nat), AV.int IntKind.i64 (0 : Int)] ∧ h = { objs := T.leaf, next := (0 : Nat), glob := G }) (startM P 19 [.str t] G)) ∧ (Goal P (0) 12 (fun v h => v = AV.nils (0 : Nat) (0 : Nat) ∧ h = { objs := T.leaf, next := (0 : Nat), glob := G }) (startM P 12 [.nils 0 0] G)) ∧ K (BM s G)) := by kernel_rfl
theorem bs (R : AV → Prop) (s t : List UInt8) (G : T (T AV)) (K : AM → Prop) : Obl P 5 (fun v _ => R v) 0 K [.run 8, .callv [] (.bool true), .run 17, .callh [] [0] (.str t) ⟨.leaf, 0, G⟩, .run 1, .callh [] [0] (.tup [.nils 0 0, .int .i64 0]) ⟨.leaf, 0, G⟩, .run 15, .callh [] [0] (.nils 0 0) ⟨.leaf, 0, G⟩, .run 39, .can 0 [] [1, 24, 28] []] ((startM P 5 [.sle, .str s] G)) = ((Goal P (0) 18 (fun v _ => v = AV.bool true) (startM P 18 [] G)) ∧ (Goal P (0) 14 (fun v h => v = AV.str t ∧ h = { objs := T.leaf, next := (0 : Nat), glob := G }) (startM P 14 [.sle] G)) ∧ (Goal P (0) 19 (fun v h => v = AV.tup [AV.nils (0 : Nat) (0 : Nat), AV.int IntKind.i64 (0 : Int)] ∧ h = { objs := T.leaf, next := (0 : Nat), glob := G }) (startM P 19 [.str t] G)) ∧ (Goal P (0) 12 (fun v h => v = AV.nils (0 : Nat) (0 : Nat) ∧ h = { objs := T.leaf, next := (0 : Nat), glob := G }) (startM P 12 [.sle] G)) ∧ K (BM s G)) := by kernel_rfl
theorem mb (R : AV → Prop) (s w : List UInt8) (G : T (T AV)) (_K : AM → Prop) : Obl P 5 (fun v _ => R v) 0 _K [.run 11, .op, .slot 36 (.str w), .run 1, .callh [] [0] (.tup [.nils 0 0, .int .i64 4]) ⟨.leaf, 0, G⟩, .run 25, .done] ((BM s G)) = ((((0 : Int) ≤ if decide ((4000 : Int) < (↑s.length : Int)) = true then (4000 : Int) else (↑s.length : Int)) ∧ (if decide ((4000 : Int) < (↑s.length : Int)) = true then (4000 : Int) else (↑s.length : Int)) ≤ (↑s.length : Int)) ∧ (AV.str (List.take ((if decide ((4000 : Int) < (↑s.length : Int)) = true then (4000 : Int) else (↑s.length : Int)).toNat - (0 : Nat)) (List.drop (0 : Nat) s)) = AV.str w) ∧ (Goal P (0) 19 (fun v h => v = AV.tup [AV.nils (0 : Nat) (0 : Nat), AV.int IntKind.i64 (4 : Int)] ∧ h = { objs := T.leaf, next := (0 : Nat), glob := G }) (startM P 19 [.str w] G)) ∧ (R (.bool true))) := by kernel_rfl
theorem mn (R : AV → Prop) (s t w : List UInt8) (G : T (T AV)) (_K : AM → Prop) : Obl P 5 (fun v _ => R v) 0 _K [.run 11, .op, .slot 36 (.str w), .run 1, .callh [] [0] (.tup [.nils 0 0, .int .i64 0]) ⟨.leaf, 0, G⟩, .run 10, .can 0 [] [1, 7, 8, 40] [], .run 11, .op, .run 1, .callh [] [0] (.str t) ⟨.leaf, 0, G⟩, .run 4, .done] ((BM s G)) = ((((0 : Int) ≤ if decide ((4000 : Int) < (↑s.length : Int)) = true then (4000 : Int) else (↑s.length : Int)) ∧ (if decide ((4000 : Int) < (↑s.length : Int)) = true then (4000 : Int) else (↑s.length : Int)) ≤ (↑s.length : Int)) ∧ (AV.str (List.take ((if decide ((4000 : Int) < (↑s.length : Int)) = true then (4000 : Int) else (↑s.length : Int)).toNat - (0 : Nat)) (List.drop (0 : Nat) s)) = AV.str w) ∧ (Goal P (0) 19 (fun v h => v = AV.tup [AV.nils (0 : Nat) (0 : Nat), AV.int IntKind.i64 (0 : Int)] ∧ h = { objs := T.leaf, next := (0 : Nat), glob := G }) (startM P 19 [.str w] G)) ∧ (((0 : Int) ≤ if decide ((4000 : Int) < (↑s.length : Int)) = true then (4000 : Int) else (↑s.length : Int)) ∧ (if decide ((4000 : Int) < (↑s.length : Int)) = true then (4000 : Int) else (↑s.length : Int)) ≤ (↑s.length : Int)) ∧ (Goal P (0) 14 (fun v h => v = AV.str t ∧ h = { objs := T.leaf, next := (0 : Nat), glob := G }) (startM P 14 [.nils 0 0] G)) ∧ ((readA P (ev (T.set (some (AV.str t)) ((((T.leaf.node (some (AV.nils (0) (0))) (T.leaf.node none (T.leaf.node (some (AV.str (List.take ((if decide ((4000 : Int) < (↑s.length : Int)) = true then (4000 : Int) else (↑s.length : Int)).toNat - (0 : Nat)) (List.drop (0 : Nat) s)))) T.leaf))).node none ((T.leaf.node none (T.leaf.node (some (AV.str s)) T.leaf)).node none T.leaf)).node (some (AV.str s)) (((T.leaf.node none (T.leaf.node (some (AV.nils (0) (0))) T.leaf)).node none ((T.leaf.node (some (AV.bool false)) T.leaf).node none T.leaf)).node none ((T.leaf.node none (T.leaf.node (some (AV.int IntKind.i64 (↑s.length : Int))) T.leaf)).node none T.leaf))).node none (((T.leaf.node (some (AV.int IntKind.i64 (Int.ofNat (0)))) ((T.leaf.node (some (AV.int IntKind.i64 (Int.ofNat (0)))) T.leaf).node none T.leaf)).node none ((T.leaf.node none (T.leaf.node (some (AV.str s)) T.leaf)).node none T.leaf)).node none (T.leaf.node none ((T.leaf.node none (T.leaf.node (some (AV.int IntKind.i64 (if decide ((4000 : Int) < (↑s.length : Int)) = true then (4000 : Int) else (↑s.length : Int)))) T.leaf)).node none T.leaf)))) (50 : Nat))) { objs := ({ objs := T.leaf, next := 0, glob := G } : AHeap).objs, next := ({ objs := T.leaf, next := 0, glob := G } : AHeap).next + ({ objs := T.leaf, next := (0 : Nat), glob := G } : AHeap).next, glob := ({ objs := T.leaf, next := 0, glob := G } : AHeap).glob } (Op.slice (9 : Nat) (Operand.tmp (51 : Nat)) none (some (Operand.tmp (54 : Nat))) none)) = some (AV.str (List.take ((if decide ((4000 : Int) < (↑s.length : Int)) = true then (4000 : Int) else (↑s.length : Int)).toNat - (0 : Nat)) (List.drop (0 : Nat) s)))) ∧ (some (AV.int IntKind.i64 (if decide ((4000 : Int) < (↑s.length : Int)) = true then (4000 : Int) else (↑s.length : Int))) = some (AV.int IntKind.i64 (if decide ((4000 : Int) < (↑s.length : Int)) = true then (4000 : Int) else (↑s.length : Int)))) ∧ (some (AV.int IntKind.i64 (↑s.length : Int)) = some (AV.int IntKind.i64 (↑s.length : Int))) ∧ (R (.bool (t == List.take ((if decide ((4000 : Int) < (↑s.length : Int)) = true then (4000 : Int) else (↑s.length : Int)).toNat - (0 : Nat)) (List.drop (0 : Nat) s))))) := by kernel_rfl
theorem mr (R : AV → Prop) (cell' : Nat → AV) (s t w : List UInt8) (y k : Nat) (G : T (T AV)) (_K : AM → Prop) : Obl P 5 (fun v _ => R v) 0 _K [.run 11, .op, .slot 36 (.str w), .run 1, .callh [] [0] (.tup [.slg 0 0 0 k 0, .int .i64 0]) ⟨(.node .leaf (some (.cells (.fn fun j => some (cell' j)) y 35 0 0 1 0 false .leaf)) .leaf), 1, G⟩, .run 10, .can 0 [0] [1, 7, 8, 40] [], .run 11, .op, .run 1, .callh [(0, 0, [])] [0] (.str t) ⟨(.node .leaf (some (.cells (.fn fun j => some (cell' j)) y 35 0 0 1 0 false .leaf)) .leaf), 1, G⟩, .run 4, .done] ((BM s G)) = ((((0 : Int) ≤ if decide ((4000 : Int) < (↑s.length : Int)) = true then (4000 : Int) else (↑s.length : Int)) ∧ (if decide ((4000 : Int) < (↑s.length : Int)) = true then (4000 : Int) else (↑s.length : Int)) ≤ (↑s.length : Int)) ∧ (AV.str (List.take ((if decide ((4000 : Int) < (↑s.length : Int)) = true then (4000 : Int) else (↑s.length : Int)).toNat - (0 : Nat)) (List.drop (0 : Nat) s)) = AV.str w) ∧ (PlainFn fun j => some (cell' j)) ∧ (Goal P (0) 19 (fun v h => v = AV.tup [AV.slg (0 : Nat) (0 : Nat) (0 : Nat) k (0 : Nat), AV.int IntKind.i64 (0 : Int)] ∧ h = { objs := T.leaf.node (some (AObj.cells (T.fn fun j => some (cell' j)) y (35 : TypeId) (0 : Nat) (0 : Nat) (1 : Nat) (0 : Nat) false T.leaf)) T.leaf, next := (1 : Nat), glob := G }) (startM P 19 [.str w] G)) ∧ (PlainFn fun j => some (cell' j)) ∧ (((0 : Int) ≤ if decide ((4000 : Int) < (↑s.length : Int)) = true then (4000 : Int) else (↑s.length : Int)) ∧ (if decide ((4000 : Int) < (↑s.length : Int)) = true then (4000 : Int) else (↑s.length : Int)) ≤ (↑s.length : Int)) ∧ (PlainFn fun j => some (cell' j)) ∧ (PlainFn fun j => some (cell' j)) ∧ (Goal P (1) 14 (fun v h => v = AV.str t ∧ h = { objs := T.leaf.node (some (AObj.cells (T.fn fun j => some (cell' j)) y (35 : TypeId) (0 : Nat) (0 : Nat) (1 : Nat) (0 : Nat) false T.leaf)) T.leaf, next := (1 : Nat), glob := G }) (startH P 14 [.slg 0 0 0 k 0] ⟨(.node .leaf (some (.cells (.fn fun j => some (cell' j)) y 35 0 0 1 0 false .leaf)) .leaf), 1, G⟩)) ∧ ((readA P (ev (T.set (some (AV.str t)) ((((T.leaf.node (some (AV.slg (0) (0) (0) k (0))) (T.leaf.node none (T.leaf.node (some (AV.str (List.take ((if decide ((4000 : Int) < (↑s.length : Int)) = true then (4000 : Int) else (↑s.length : Int)).toNat - (0 : Nat)) (List.drop (0 : Nat) s)))) T.leaf))).node none ((T.leaf.node none (T.leaf.node (some (AV.str s)) T.leaf)).node none T.leaf)).node (some (AV.str s)) (((T.leaf.node none (T.leaf.node (some (AV.slg (0) (0) (0) k (0))) T.leaf)).node none ((T.leaf.node (some (AV.bool false)) T.leaf).node none T.leaf)).node none ((T.leaf.node none (T.leaf.node (some (AV.int IntKind.i64 (↑s.length : Int))) T.leaf)).node none T.leaf))).node none (((T.leaf.node (some (AV.int IntKind.i64 (Int.ofNat (0)))) ((T.leaf.node (some (AV.int IntKind.i64 (Int.ofNat (0)))) T.leaf).node none T.leaf)).node none ((T.leaf.node none (T.leaf.node (some (AV.str s)) T.leaf)).node none T.leaf)).node none (T.leaf.node none ((T.leaf.node none (T.leaf.node (some (AV.int IntKind.i64 (if decide ((4000 : Int) < (↑s.length : Int)) = true then (4000 : Int) else (↑s.length : Int)))) T.leaf)).node none T.leaf)))) (50 : Nat))) { objs := T.leaf.node (some (AObj.cells (T.fn fun j => some (cell' j)) y (35 : TypeId) (0 : Nat) (0 : Nat) (1 : Nat) (0 : Nat) false T.leaf)) T.leaf, next := ({ objs := T.leaf.node (some (AObj.cells (T.fn fun j => some (cell' j)) y (35) (0) (0) (1) (0) false T.leaf)) T.leaf, next := 1, glob := G } : AHeap).next + (({ objs := T.leaf.node (some (AObj.cells (T.fn fun j => some (cell' j)) y (35 : TypeId) (0 : Nat) (0 : Nat) (1 : Nat) (0 : Nat) false T.leaf)) T.leaf, next := (1 : Nat), glob := G } : AHeap).next - 1), glob := ({ objs := T.leaf.node (some (AObj.cells (T.fn fun j => some (cell' j)) y (35) (0) (0) (1) (0) false T.leaf)) T.leaf, next := 1, glob := G } : AHeap).glob } (Op.slice (9 : Nat) (Operand.tmp (51 : Nat)) none (some (Operand.tmp (54 : Nat))) none)) = some (AV.str (List.take ((if decide ((4000 : Int) < (↑s.length : Int)) = true then (4000 : Int) else (↑s.length : Int)).toNat - (0 : Nat)) (List.drop (0 : Nat) s)))) ∧ (some (AV.int IntKind.i64 (if decide ((4000 : Int) < (↑s.length : Int)) = true then (4000 : Int) else (↑s.length : Int))) = some (AV.int IntKind.i64 (if decide ((4000 : Int) < (↑s.length : Int)) = true then (4000 : Int) else (↑s.length : Int)))) ∧ (some (AV.int IntKind.i64 (↑s.length : Int)) = some (AV.int IntKind.i64 (↑s.length : Int))) ∧ (R (.bool (t == List.take ((if decide ((4000 : Int) < (↑s.length : Int)) = true then (4000 : Int) else (↑s.length : Int)).toNat - (0 : Nat)) (List.drop (0 : Nat) s))))) := by kernel_rfl
theorem works_ok : Goal P 0 18 (fun x _ => x = AV.bool true) (startM P 18 [] GW) := Goal.ofRun mix (n := 20000) (by kernel_rfl) fun _ => rfl
theorem enc_le : ∀ l : List Dg, (∀ d, d ∈ l → mayB d = true) → (encL l).length ≤ 9 + l.length * 227 := by
  intro l h
  have h9 := row_length (l.length : Nat)
  have : ∀ m : List Dg, (∀ d, d ∈ m → mayB d = true) → (m.flatMap one).length ≤ m.length * 227 := by
    intro m
    induction m with
    | nil => intro _; simp
    | cons d r ih =>
      intro hm
      have h1 := one_len (hm d (by simp))
      have h2 := ih fun x hx => hm x (by simp [hx])
      simp only [List.flatMap_cons, List.length_append, List.length_cons]
      omega
  have := this l h
  unfold encL
  simp only [List.length_append, List.length_nil]
  omega
theorem beqT {α : Type} [BEq α] [LawfulBEq α] {a b : α} (h : a = b) : (a == b) = true := by rw [h]; exact beq_self_eq_true b
theorem back_half (s : List UInt8) : Goal P 0 5 (fun v _ => v = .bool true) (BM s GW) := by
  have hcut : (if decide ((4000 : Int) < (s.length : Int)) = true then (4000 : Int) else (s.length : Int)) = ((min s.length 4000 : Nat) : Int) := by
    by_cases h : (4000 : Int) < (s.length : Int)
    · rw [decide_eq_true h, if_pos rfl]; omega
    · rw [decide_eq_false h, if_neg (by simp)]; omega
  have hbd : (0 : Int) ≤ (if decide ((4000 : Int) < (s.length : Int)) = true then (4000 : Int) else (s.length : Int)) ∧ (if decide ((4000 : Int) < (s.length : Int)) = true then (4000 : Int) else (s.length : Int)) ≤ (s.length : Int) := by
    rw [hcut]; omega
  have hw : List.take ((if decide ((4000 : Int) < (s.length : Int)) = true then (4000 : Int) else (s.length : Int)).toNat - 0) (List.drop 0 s) = s.take (min s.length 4000) := by
    rw [hcut]; rfl
  have hws : AV.str (List.take ((if decide ((4000 : Int) < (s.length : Int)) = true then (4000 : Int) else (s.length : Int)).toNat - 0) (List.drop 0 s)) = AV.str (s.take (min s.length 4000)) := by rw [hw]
  generalize hwd : s.take (min s.length 4000) = w at *
  have hlen : w.length ≤ 200000 := by rw [← hwd, List.length_take]; omega
  by_cases hex : ∃ l, So l l ∧ encL l = w
  · obtain ⟨ms, hm, he⟩ := hex
    rcases dec_ok hlen hm he with ⟨h0, hg⟩ | ⟨hpos, f', hf, hg⟩
    · exact Obl.goal (K := Goal P 0 5 _) mix (fun _ h => h) (cast (mn _ _ (encL []) (w) GW _).symm ⟨hbd, hws, hg, hbd, enc_nil, rdS _ _ _ _ s _ hbd rfl rfl, rfl, rfl, by rw [hw, beqT (by rw [← he, h0])]⟩)
    · have hM := enc_ge ms
      rw [he] at hM
      have hso : So (sl f' 0 ms.length) ms := by rw [hf]; exact hm
      exact Obl.goal (K := Goal P 0 5 _) mix (fun _ h => h) (cast (mr _ (el f') _ (encL ms) (w) (ms.length * 3) (ms.length) GW _).symm ⟨hbd, hws, el_plain _, hg, el_plain _, hbd, el_plain _, el_plain _, encC_ok (off := 0) (z := ms.length * 3) (cp := 0) (Nat.le_refl _) (by omega) hso, rdS _ _ _ _ s _ hbd rfl rfl, rfl, rfl, by rw [hw, beqT he]⟩)
  · exact Obl.goal (K := Goal P 0 5 _) mix (fun _ h => h) (cast (mb _ _ (w) GW _).symm ⟨hbd, hws, dec_bad hlen fun l hl he => hex ⟨l, hl, he⟩, rfl⟩)
theorem dec_nil : Goal P 0 19 (fun v h => v = .tup [.nils 0 0, .int .i64 0] ∧ h = ⟨.leaf, 0, GW⟩) (startM P 19 [.str (encL [])] GW) := by
  have hso : So [] [] := ⟨.nil, by simp⟩
  rcases dec_ok (s := encL []) (by have := enc_le [] (by simp); simp at this; omega) hso rfl with ⟨_, h⟩ | ⟨h, _⟩
  · exact h
  · exact absurd h (by simp)
theorem back_nil (s : List UInt8) : Goal P 0 5 (fun v _ => v = .bool true) (startM P 5 [.nils 0 0, .str s] GW) :=
  Obl.goal (K := Goal P 0 5 _) mix (fun _ h => h) (cast (bn _ _ (encL []) GW _).symm ⟨works_ok, enc_nil, dec_nil, sort_nilL, back_half s⟩)
theorem back_sle (s : List UInt8) : Goal P 0 5 (fun v _ => v = .bool true) (startM P 5 [.sle, .str s] GW) :=
  Obl.goal (K := Goal P 0 5 _) mix (fun _ h => h) (cast (bs _ _ (encL []) GW _).symm ⟨works_ok, enc_sleL, dec_nil, sort_sleL, back_half s⟩)
theorem back_ok {off n cp z : Nat} {f : Nat → Dg} {s : List UInt8} (hz : off + n * 3 ≤ z) (hcp : n ≤ cp) :
    Goal P 0 5 (fun v _ => v = .bool true) (startH P 5 [.slc 0 0 off n cp, .str s] ⟨(.node .leaf (some (.ro (.fn fun c => some (elo f off c)) off z)) .leaf), 1, GW⟩) := by
  generalize hm : min n 300 = m
  have hm1 : m ≤ 300 := by omega
  have hcut : (if decide ((300 : Int) < (n : Int)) = true then (300 : Int) else (n : Int)) = (m : Int) := by
    by_cases h : (300 : Int) < (n : Int)
    · rw [decide_eq_true h, if_pos rfl]; omega
    · rw [decide_eq_false h, if_neg (by simp)]; omega
  have hsl : AV.slc 0 0 (if cp = 0 then off else off) ((if decide ((300 : Int) < (n : Int)) = true then (300 : Int) else (n : Int)).toNat - 0) (cp - 0) = AV.slc 0 0 off m cp := by
    rw [hcut, Int.toNat_natCast]
    congr 1
    split <;> rfl
  have hbd : (0 : Int) ≤ (if decide ((300 : Int) < (n : Int)) = true then (300 : Int) else (n : Int)) ∧ (if decide ((300 : Int) < (n : Int)) = true then (300 : Int) else (n : Int)) ≤ (cp : Int) := by
    rw [hcut]; omega
  have hz' : off + m * 3 ≤ z := by omega
  rcases sortR_ok (off := off) (z := z) (n := m) (cp := cp) (f := f) hz' (by omega) with ⟨q1, q2⟩ | ⟨f', k, y, q1, q2, q3, q4, q5⟩
  · exact Obl.goal (K := Goal P 0 5 _) mix (fun _ h => h) (cast (bz _ _ _ (encL []) _ (m) _ _ _ _ GW _).symm ⟨works_ok, hbd, hsl, encR_ok hz' (by omega) q1, dec_nil, q2, back_half s⟩)
  · have hself := q4.self
    have hlen := enc_le (sl f' 0 k) fun d hd => ((hself.2 d).1 hd).2
    rw [sl_len] at hlen
    rcases dec_ok (s := encL (sl f' 0 k)) (by omega) hself rfl with ⟨h, _⟩ | ⟨_, f2, hf, hg⟩
    · have := congrArg List.length h
      rw [sl_len] at this
      simp at this
      omega
    · rw [sl_len] at hf hg
      exact Obl.goal (K := Goal P 0 5 _) mix (fun _ h => h) (cast (ba _ _ (el f2) (el f') _ (encL (sl f' 0 k)) _ (m) _ _ (k * 3) (y) _ _ (k) GW _).symm ⟨works_ok, hbd, hsl, encR_ok hz' (by omega) q4, el_plain _, hg, el_plain _, q5, el_plain _, el_plain _, el_plain _, el_plain _, same_ok (z := k * 3) (y := y) (n := k) (f := f2) (g := f') (Nat.le_refl _) q3 (by omega) hf, back_half s⟩)
end Go.Proofs.YtdbfpjgnlfejmaaDoor.dg
end
